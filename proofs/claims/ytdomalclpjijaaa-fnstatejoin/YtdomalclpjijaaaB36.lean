import Derived.Test.YtdomalclpjijaaaB35
/-
  The model's StateJoin and StateWide.
-/
namespace Go.Proofs.Ytdomalclpjijaaa
open Go.RowKit
set_option linter.unusedVariables false
set_option linter.unusedSimpArgs false

set_option maxHeartbeats 1000000 in
theorem stJoin_spec (x : World) (z z' : Bool) (B E C D : Nat) (a : Bool) (v : Value) (L : List Sp) (c : Bool) (l u : Int) (b : Bool) (v' : Value) (M : List Sp) (d : Bool) (l' u' : Int) (h : SpsAt z x B E v L) (h' : SpsAt z' x C D v' M) :
    Calls Try.prog 11 #[.agg #[.bool a, v, .bool c, .int .i64 l, .int .i64 u], .agg #[.bool b, v', .bool d, .int .i64 l', .int .i64 u']] x fun e y => StAt (stBoth false a L (c, l, u) b M (d, l', u')) x e y := by
  obtain ⟨p, cap, hv⟩ := h.shape
  obtain ⟨p', cap', hv'⟩ := h'.shape
  generalize hn : L.length = n at hv
  generalize hm : M.length = m at hv'
  subst hv hv'
  clear hn hm
  obtain ⟨⟨ra, rL, rc, rl, ru⟩, hr⟩ : ∃ r, stBoth false a L (c, l, u) b M (d, l', u') = r := ⟨_, rfl⟩
  have HR : Hid (stBoth false a L (c, l, u) b M (d, l', u') = (ra, rL, rc, rl, ru)) := hr
  clear hr
  have hba : Below x.heap.size x (((x.alloc (.cells #[.bool a, .slice p n cap, .bool c, .int .i64 l, .int .i64 u] 31)).alloc (.cells #[.bool b, .slice p' m cap', .bool d, .int .i64 l', .int .i64 u'] 31)).alloc (.cells #[.bool false, .slice none 0 0, .bool false, .int .i64 0, .int .i64 0] 31)) := by go_grown
  have hz : (((x.alloc (.cells #[.bool a, .slice p n cap, .bool c, .int .i64 l, .int .i64 u] 31)).alloc (.cells #[.bool b, .slice p' m cap', .bool d, .int .i64 l', .int .i64 u'] 31)).alloc (.cells #[.bool false, .slice none 0 0, .bool false, .int .i64 0, .int .i64 0] 31)).heap.size = x.heap.size + 3 := by simp
  have kr := Bx5.new ((x.alloc (.cells #[.bool a, .slice p n cap, .bool c, .int .i64 l, .int .i64 u] 31)).alloc (.cells #[.bool b, .slice p' m cap', .bool d, .int .i64 l', .int .i64 u'] 31)) (.bool false) (.slice none 0 0) (.bool false) (.int .i64 0) (.int .i64 0) 31
  simp only [World.size_alloc] at kr
  have h3 := h.later hba
  have h3' := h'.later hba
  have HZ : Hid ((((x.alloc (.cells #[.bool a, .slice p n cap, .bool c, .int .i64 l, .int .i64 u] 31)).alloc (.cells #[.bool b, .slice p' m cap', .bool d, .int .i64 l', .int .i64 u'] 31)).alloc (.cells #[.bool false, .slice none 0 0, .bool false, .int .i64 0, .int .i64 0] 31)).heap.size = x.heap.size + 3) := hz
  clear hz
  go_enter Try.func11, Try.ntmps11
  go_wp2_with fail
  refine (l11Both_any false _ z z' B E C D _ _ L _ _ _ _ _ M _ _ _ h3 h3').mono ?_
  rintro e w1 ⟨v1, rfl, hS, hb⟩
  rw [HZ.out] at hS
  rw [HR.out] at hS ⊢
  obtain ⟨p1, cap1, hv1⟩ := hS.shape
  simp only at hv1 hS ⊢
  generalize hq : rL.length = q at hv1
  subst hv1
  have HS : Hid (SpsAt true w1 (x.heap.size + 3) w1.heap.size (.slice p1 q cap1) rL) := hS
  have kr1 := kr.later hb
  have hB : Below x.heap.size x w1 := hba.trans (hb.mono hba.size)
  obtain ⟨k, r0, r1, r2, r3, r4, rf⟩ := kr1
  clear hS hb hba kr h3 h3' hq HZ
  go_wp2_with fail
  refine bodyPost_ret (v := .agg #[.bool ra, .slice p1 q cap1, .bool rc, .int .i64 rl, .int .i64 ru]) (by simp [results, Try.results11, go_sem, k, r0, r1, r2, r3, r4, rf]) rfl ?_
  rw [HR.out]
  refine ⟨_, rfl, ?_, ?_⟩
  · refine SpsAt.wide (B := x.heap.size + 3) (E := w1.heap.size) ?_ (by omega) (by simp) (by simp)
    repeat (refine SpsAt.off ?_ (by omega))
    exact HS.out
  · repeat (refine Below.setCell ?_ (by simp <;> omega) _)
    exact hB

set_option maxHeartbeats 1000000 in
theorem stWide_spec (x : World) (z z' : Bool) (B E C D : Nat) (a : Bool) (v : Value) (L : List Sp) (c : Bool) (l u : Int) (b : Bool) (v' : Value) (M : List Sp) (d : Bool) (l' u' : Int) (h : SpsAt z x B E v L) (h' : SpsAt z' x C D v' M) :
    Calls Try.prog 17 #[.agg #[.bool a, v, .bool c, .int .i64 l, .int .i64 u], .agg #[.bool b, v', .bool d, .int .i64 l', .int .i64 u']] x fun e y => StAt (stBoth true a L (c, l, u) b M (d, l', u')) x e y := by
  obtain ⟨p, cap, hv⟩ := h.shape
  obtain ⟨p', cap', hv'⟩ := h'.shape
  generalize hn : L.length = n at hv
  generalize hm : M.length = m at hv'
  subst hv hv'
  clear hn hm
  obtain ⟨⟨ra, rL, rc, rl, ru⟩, hr⟩ : ∃ r, stBoth true a L (c, l, u) b M (d, l', u') = r := ⟨_, rfl⟩
  have HR : Hid (stBoth true a L (c, l, u) b M (d, l', u') = (ra, rL, rc, rl, ru)) := hr
  clear hr
  have hba : Below x.heap.size x (((x.alloc (.cells #[.bool a, .slice p n cap, .bool c, .int .i64 l, .int .i64 u] 31)).alloc (.cells #[.bool b, .slice p' m cap', .bool d, .int .i64 l', .int .i64 u'] 31)).alloc (.cells #[.bool false, .slice none 0 0, .bool false, .int .i64 0, .int .i64 0] 31)) := by go_grown
  have hz : (((x.alloc (.cells #[.bool a, .slice p n cap, .bool c, .int .i64 l, .int .i64 u] 31)).alloc (.cells #[.bool b, .slice p' m cap', .bool d, .int .i64 l', .int .i64 u'] 31)).alloc (.cells #[.bool false, .slice none 0 0, .bool false, .int .i64 0, .int .i64 0] 31)).heap.size = x.heap.size + 3 := by simp
  have kr := Bx5.new ((x.alloc (.cells #[.bool a, .slice p n cap, .bool c, .int .i64 l, .int .i64 u] 31)).alloc (.cells #[.bool b, .slice p' m cap', .bool d, .int .i64 l', .int .i64 u'] 31)) (.bool false) (.slice none 0 0) (.bool false) (.int .i64 0) (.int .i64 0) 31
  simp only [World.size_alloc] at kr
  have h3 := h.later hba
  have h3' := h'.later hba
  have HZ : Hid ((((x.alloc (.cells #[.bool a, .slice p n cap, .bool c, .int .i64 l, .int .i64 u] 31)).alloc (.cells #[.bool b, .slice p' m cap', .bool d, .int .i64 l', .int .i64 u'] 31)).alloc (.cells #[.bool false, .slice none 0 0, .bool false, .int .i64 0, .int .i64 0] 31)).heap.size = x.heap.size + 3) := hz
  clear hz
  go_enter Try.func17, Try.ntmps17
  go_wp2_with fail
  refine (l11Both_any true _ z z' B E C D _ _ L _ _ _ _ _ M _ _ _ h3 h3').mono ?_
  rintro e w1 ⟨v1, rfl, hS, hb⟩
  rw [HZ.out] at hS
  rw [HR.out] at hS ⊢
  obtain ⟨p1, cap1, hv1⟩ := hS.shape
  simp only at hv1 hS ⊢
  generalize hq : rL.length = q at hv1
  subst hv1
  have HS : Hid (SpsAt true w1 (x.heap.size + 3) w1.heap.size (.slice p1 q cap1) rL) := hS
  have kr1 := kr.later hb
  have hB : Below x.heap.size x w1 := hba.trans (hb.mono hba.size)
  obtain ⟨k, r0, r1, r2, r3, r4, rf⟩ := kr1
  clear hS hb hba kr h3 h3' hq HZ
  go_wp2_with fail
  refine bodyPost_ret (v := .agg #[.bool ra, .slice p1 q cap1, .bool rc, .int .i64 rl, .int .i64 ru]) (by simp [results, Try.results17, go_sem, k, r0, r1, r2, r3, r4, rf]) rfl ?_
  rw [HR.out]
  refine ⟨_, rfl, ?_, ?_⟩
  · refine SpsAt.wide (B := x.heap.size + 3) (E := w1.heap.size) ?_ (by omega) (by simp) (by simp)
    repeat (refine SpsAt.off ?_ (by omega))
    exact HS.out
  · repeat (refine Below.setCell ?_ (by simp <;> omega) _)
    exact hB
end Go.Proofs.Ytdomalclpjijaaa

/-
  The contracts of the draws of two states.
-/
namespace Go.Proofs.Ytdomalclpjijaaa
open Go.RowKit
set_option linter.unusedVariables false
set_option linter.unusedSimpArgs false

/-- two drawn states, in new memory -/
structure GotTwoS (w : World) (e : Ending) (y : World) : Prop where
  it : ∃ (a : Bool) (L : List Sp) (c : Bool) (l u : Int) (p : Option Addr) (cap : Nat) (b : Bool) (M : List Sp) (d : Bool) (l' u' : Int) (p' : Option Addr) (cap' : Nat), e = .returned (.tuple #[.agg #[.bool a, .slice p L.length cap, .bool c, .int .i64 l, .int .i64 u], .agg #[.bool b, .slice p' M.length cap', .bool d, .int .i64 l', .int .i64 u']]) ∧
    L.length ≤ 3 ∧ M.length ≤ 3 ∧ SpsAt true y w.heap.size y.heap.size (.slice p L.length cap) L ∧ SpsAt true y w.heap.size y.heap.size (.slice p' M.length cap') M ∧ Below w.heap.size w y
theorem stBoth_len (wd a : Bool) (L : List Sp) (c : Sp) (b : Bool) (M : List Sp) (d : Sp) : (stBoth wd a L c b M d).2.1.length ≤ 3 := by
  unfold stBoth
  split
  · rename_i h
    simp only [Bool.and_eq_true] at h
    have h1 := stOk_len0 h.1
    have h2 := stOk_len0 h.2
    split
    · split
      · simp [row3]
      · simp only; omega
    · simp only; omega
  · simp [noSt]

set_option maxHeartbeats 4000000 in
theorem drawStateJoin_any (a : Option Addr) (len cap : Nat) (zs : List Int) (w : World) (h : IsRow w a len cap zs) :
    Calls Try.prog 27 #[.slice a len cap] w fun e y => GotTwoS w e y := by
  have hb0 : Below w.heap.size w ((w.alloc (.cells #[.bool false, .slice none 0 0, .bool false, .int .i64 0, .int .i64 0] 31)).alloc (.cells #[.bool false, .slice none 0 0, .bool false, .int .i64 0, .int .i64 0] 31)) := by go_grown
  have h' := IsRow.later h hb0
  have hz0 : ((w.alloc (.cells #[.bool false, .slice none 0 0, .bool false, .int .i64 0, .int .i64 0] 31)).alloc (.cells #[.bool false, .slice none 0 0, .bool false, .int .i64 0, .int .i64 0] 31)).heap.size = w.heap.size + 2 := by simp
  have k0 := (Bx5.new w (.bool false) (.slice none 0 0) (.bool false) (.int .i64 0) (.int .i64 0) 31).alloc (.cells #[.bool false, .slice none 0 0, .bool false, .int .i64 0, .int .i64 0] 31)
  have k1 := Bx5.new (w.alloc (.cells #[.bool false, .slice none 0 0, .bool false, .int .i64 0, .int .i64 0] 31)) (.bool false) (.slice none 0 0) (.bool false) (.int .i64 0) (.int .i64 0) 31
  simp only [World.size_alloc] at k1
  have HK : Hid (Bx5 ((w.alloc (.cells #[.bool false, .slice none 0 0, .bool false, .int .i64 0, .int .i64 0] 31)).alloc (.cells #[.bool false, .slice none 0 0, .bool false, .int .i64 0, .int .i64 0] 31)) w.heap.size (.bool false) (.slice none 0 0) (.bool false) (.int .i64 0) (.int .i64 0) ∧ Bx5 ((w.alloc (.cells #[.bool false, .slice none 0 0, .bool false, .int .i64 0, .int .i64 0] 31)).alloc (.cells #[.bool false, .slice none 0 0, .bool false, .int .i64 0, .int .i64 0] 31)) (w.heap.size + 1) (.bool false) (.slice none 0 0) (.bool false) (.int .i64 0) (.int .i64 0) ∧ ((w.alloc (.cells #[.bool false, .slice none 0 0, .bool false, .int .i64 0, .int .i64 0] 31)).alloc (.cells #[.bool false, .slice none 0 0, .bool false, .int .i64 0, .int .i64 0] 31)).heap.size = w.heap.size + 2) := ⟨k0, k1, hz0⟩
  clear k0 k1 hz0
  go_enter Try.func27, Try.ntmps27
  go_wp2_with fail
  refine (open_any a len cap zs _ h').mono ?_
  rintro e x ⟨rfl, hR, hb⟩
  rw [HK.out.2.2] at hR ⊢
  have K1 : Hid (Bx5 x w.heap.size (.bool false) (.slice none 0 0) (.bool false) (.int .i64 0) (.int .i64 0) ∧ Bx5 x (w.heap.size + 1) (.bool false) (.slice none 0 0) (.bool false) (.int .i64 0) (.int .i64 0) ∧ Below w.heap.size w x) := ⟨HK.out.1.later hb, HK.out.2.1.later hb, hb0.trans (hb.mono hb0.size)⟩
  clear hb hb0 HK h h'
  have hrx := hR.lt
  go_wp2_with fail
  refine (l71State_any (w.heap.size + 2) 0 _ hR (by omega)).mono ?_
  rintro e y1 hg1
  obtain ⟨a1, L, c1, l1, u1, p1, cap1, rfl, hl1, hs1, hD1⟩ := hg1.it
  have hz1 := hD1.size
  have K2 : Hid (Bx5 y1 w.heap.size (.bool false) (.slice none 0 0) (.bool false) (.int .i64 0) (.int .i64 0) ∧ Bx5 y1 (w.heap.size + 1) (.bool false) (.slice none 0 0) (.bool false) (.int .i64 0) (.int .i64 0) ∧ Below w.heap.size w y1 ∧ SpsAt true y1 x.heap.size y1.heap.size (.slice p1 L.length cap1) L) := ⟨hD1.bx5 K1.out.1 (by omega), hD1.bx5 K1.out.2.1 (by omega), K1.out.2.2.trans (hD1.below.mono (by omega)), hs1⟩
  have hrd := hD1.rd
  clear K1 hg1 hD1 hs1 hR
  go_wp2_with fail
  refine (l71State_any (w.heap.size + 2) (0 + 40) _ hrd (by omega)).mono ?_
  rintro e y2 hg2
  obtain ⟨a2, M, c2, l2, u2, p2, cap2, rfl, hl2, hs2, hD2⟩ := hg2.it
  have hz2 := hD2.size
  have K3 : Hid (Bx5 y2 w.heap.size (.bool false) (.slice none 0 0) (.bool false) (.int .i64 0) (.int .i64 0) ∧ Bx5 y2 (w.heap.size + 1) (.bool false) (.slice none 0 0) (.bool false) (.int .i64 0) (.int .i64 0) ∧ Below w.heap.size w y2 ∧ SpsAt true y2 x.heap.size y1.heap.size (.slice p1 L.length cap1) L ∧ SpsAt true y2 y1.heap.size y2.heap.size (.slice p2 M.length cap2) M ∧ L.length ≤ 3 ∧ M.length ≤ 3) := ⟨hD2.bx5 K2.out.1 (by omega), hD2.bx5 K2.out.2.1 (by omega), K2.out.2.2.1.trans (hD2.below.mono (by omega)), hD2.sps K2.out.2.2.2 (by omega), hs2, hl1, hl2⟩
  clear K2 hg2 hD2 hs2 hrd hl1 hl2
  generalize hn1 : L.length = n1 at K3 ⊢
  generalize hn2 : M.length = n2 at K3 ⊢
  have HN : Hid (L.length = n1 ∧ M.length = n2) := ⟨hn1, hn2⟩
  clear hn1 hn2
  obtain ⟨al, a0, a1_, a2_, a3, a4, af⟩ := K3.out.1
  obtain ⟨bl, b0, b1_, b2_, b3, b4, bf⟩ := K3.out.2.1
  go_wp2_with fail
  refine bodyPost_ret (v := .tuple #[.agg #[.bool a1, .slice p1 n1 cap1, .bool c1, .int .i64 l1, .int .i64 u1], .agg #[.bool a2, .slice p2 n2 cap2, .bool c2, .int .i64 l2, .int .i64 u2]]) (by simp [results, Try.results27, go_sem, al, bl, a0, a1_, a2_, a3, a4, af, b0, b1_, b2_, b3, b4, bf]) rfl ?_
  have hf := K3.out.2.2
  obtain ⟨e1, e2⟩ := HN.out
  subst e1 e2
  refine ⟨_, L, _, _, _, _, _, _, M, _, _, _, _, _, rfl, hf.2.2.2.1, hf.2.2.2.2, ?_, ?_, ?_⟩
  · refine SpsAt.wide (B := x.heap.size) (E := y1.heap.size) ?_ (by omega) (by simp <;> omega) (by simp)
    repeat (refine SpsAt.off ?_ (by omega))
    exact hf.2.1
  · refine SpsAt.wide (B := y1.heap.size) (E := y2.heap.size) ?_ (by omega) (by simp <;> omega) (by simp)
    repeat (refine SpsAt.off ?_ (by omega))
    exact hf.2.2.1
  · repeat (refine Below.setCell ?_ (by simp <;> omega) _)
    exact hf.1

set_option maxHeartbeats 4000000 in
theorem drawStateWide_any (a : Option Addr) (len cap : Nat) (zs : List Int) (w : World) (h : IsRow w a len cap zs) :
    Calls Try.prog 28 #[.slice a len cap] w fun e y => GotTwoS w e y := by
  have hb0 : Below w.heap.size w ((w.alloc (.cells #[.bool false, .slice none 0 0, .bool false, .int .i64 0, .int .i64 0] 31)).alloc (.cells #[.bool false, .slice none 0 0, .bool false, .int .i64 0, .int .i64 0] 31)) := by go_grown
  have h' := IsRow.later h hb0
  have hz0 : ((w.alloc (.cells #[.bool false, .slice none 0 0, .bool false, .int .i64 0, .int .i64 0] 31)).alloc (.cells #[.bool false, .slice none 0 0, .bool false, .int .i64 0, .int .i64 0] 31)).heap.size = w.heap.size + 2 := by simp
  have k0 := (Bx5.new w (.bool false) (.slice none 0 0) (.bool false) (.int .i64 0) (.int .i64 0) 31).alloc (.cells #[.bool false, .slice none 0 0, .bool false, .int .i64 0, .int .i64 0] 31)
  have k1 := Bx5.new (w.alloc (.cells #[.bool false, .slice none 0 0, .bool false, .int .i64 0, .int .i64 0] 31)) (.bool false) (.slice none 0 0) (.bool false) (.int .i64 0) (.int .i64 0) 31
  simp only [World.size_alloc] at k1
  have HK : Hid (Bx5 ((w.alloc (.cells #[.bool false, .slice none 0 0, .bool false, .int .i64 0, .int .i64 0] 31)).alloc (.cells #[.bool false, .slice none 0 0, .bool false, .int .i64 0, .int .i64 0] 31)) w.heap.size (.bool false) (.slice none 0 0) (.bool false) (.int .i64 0) (.int .i64 0) ∧ Bx5 ((w.alloc (.cells #[.bool false, .slice none 0 0, .bool false, .int .i64 0, .int .i64 0] 31)).alloc (.cells #[.bool false, .slice none 0 0, .bool false, .int .i64 0, .int .i64 0] 31)) (w.heap.size + 1) (.bool false) (.slice none 0 0) (.bool false) (.int .i64 0) (.int .i64 0) ∧ ((w.alloc (.cells #[.bool false, .slice none 0 0, .bool false, .int .i64 0, .int .i64 0] 31)).alloc (.cells #[.bool false, .slice none 0 0, .bool false, .int .i64 0, .int .i64 0] 31)).heap.size = w.heap.size + 2) := ⟨k0, k1, hz0⟩
  clear k0 k1 hz0
  go_enter Try.func28, Try.ntmps28
  go_wp2_with fail
  refine (open_any a len cap zs _ h').mono ?_
  rintro e x ⟨rfl, hR, hb⟩
  rw [HK.out.2.2] at hR ⊢
  have K1 : Hid (Bx5 x w.heap.size (.bool false) (.slice none 0 0) (.bool false) (.int .i64 0) (.int .i64 0) ∧ Bx5 x (w.heap.size + 1) (.bool false) (.slice none 0 0) (.bool false) (.int .i64 0) (.int .i64 0) ∧ Below w.heap.size w x) := ⟨HK.out.1.later hb, HK.out.2.1.later hb, hb0.trans (hb.mono hb0.size)⟩
  clear hb hb0 HK h h'
  have hrx := hR.lt
  go_wp2_with fail
  refine (l71State_any (w.heap.size + 2) 0 _ hR (by omega)).mono ?_
  rintro e y1 hg1
  obtain ⟨a1, L, c1, l1, u1, p1, cap1, rfl, hl1, hs1, hD1⟩ := hg1.it
  have hz1 := hD1.size
  have K2 : Hid (Bx5 y1 w.heap.size (.bool false) (.slice none 0 0) (.bool false) (.int .i64 0) (.int .i64 0) ∧ Bx5 y1 (w.heap.size + 1) (.bool false) (.slice none 0 0) (.bool false) (.int .i64 0) (.int .i64 0) ∧ Below w.heap.size w y1 ∧ SpsAt true y1 x.heap.size y1.heap.size (.slice p1 L.length cap1) L) := ⟨hD1.bx5 K1.out.1 (by omega), hD1.bx5 K1.out.2.1 (by omega), K1.out.2.2.trans (hD1.below.mono (by omega)), hs1⟩
  have hrd := hD1.rd
  clear K1 hg1 hD1 hs1 hR
  go_wp2_with fail
  refine (l71State_any (w.heap.size + 2) (0 + 40) _ hrd (by omega)).mono ?_
  rintro e y2 hg2
  obtain ⟨a2, M, c2, l2, u2, p2, cap2, rfl, hl2, hs2, hD2⟩ := hg2.it
  have hz2 := hD2.size
  have K3 : Hid (Bx5 y2 w.heap.size (.bool false) (.slice none 0 0) (.bool false) (.int .i64 0) (.int .i64 0) ∧ Bx5 y2 (w.heap.size + 1) (.bool false) (.slice none 0 0) (.bool false) (.int .i64 0) (.int .i64 0) ∧ Below w.heap.size w y2 ∧ SpsAt true y2 x.heap.size y1.heap.size (.slice p1 L.length cap1) L ∧ SpsAt true y2 y1.heap.size y2.heap.size (.slice p2 M.length cap2) M ∧ L.length ≤ 3 ∧ M.length ≤ 3) := ⟨hD2.bx5 K2.out.1 (by omega), hD2.bx5 K2.out.2.1 (by omega), K2.out.2.2.1.trans (hD2.below.mono (by omega)), hD2.sps K2.out.2.2.2 (by omega), hs2, hl1, hl2⟩
  clear K2 hg2 hD2 hs2 hrd hl1 hl2
  generalize hn1 : L.length = n1 at K3 ⊢
  generalize hn2 : M.length = n2 at K3 ⊢
  have HN : Hid (L.length = n1 ∧ M.length = n2) := ⟨hn1, hn2⟩
  clear hn1 hn2
  obtain ⟨al, a0, a1_, a2_, a3, a4, af⟩ := K3.out.1
  obtain ⟨bl, b0, b1_, b2_, b3, b4, bf⟩ := K3.out.2.1
  go_wp2_with fail
  refine bodyPost_ret (v := .tuple #[.agg #[.bool a1, .slice p1 n1 cap1, .bool c1, .int .i64 l1, .int .i64 u1], .agg #[.bool a2, .slice p2 n2 cap2, .bool c2, .int .i64 l2, .int .i64 u2]]) (by simp [results, Try.results28, go_sem, al, bl, a0, a1_, a2_, a3, a4, af, b0, b1_, b2_, b3, b4, bf]) rfl ?_
  have hf := K3.out.2.2
  obtain ⟨e1, e2⟩ := HN.out
  subst e1 e2
  refine ⟨_, L, _, _, _, _, _, _, M, _, _, _, _, _, rfl, hf.2.2.2.1, hf.2.2.2.2, ?_, ?_, ?_⟩
  · refine SpsAt.wide (B := x.heap.size) (E := y1.heap.size) ?_ (by omega) (by simp <;> omega) (by simp)
    repeat (refine SpsAt.off ?_ (by omega))
    exact hf.2.1
  · refine SpsAt.wide (B := y1.heap.size) (E := y2.heap.size) ?_ (by omega) (by simp <;> omega) (by simp)
    repeat (refine SpsAt.off ?_ (by omega))
    exact hf.2.2.1
  · repeat (refine Below.setCell ?_ (by simp <;> omega) _)
    exact hf.1

set_option maxHeartbeats 4000000 in
theorem drawStateIn_any (a : Option Addr) (len cap : Nat) (zs : List Int) (w : World) (h : IsRow w a len cap zs) :
    Calls Try.prog 23 #[.slice a len cap] w fun e y => GotTwoS w e y := by
  have hb0 : Below w.heap.size w ((w.alloc (.cells #[.bool false, .slice none 0 0, .bool false, .int .i64 0, .int .i64 0] 31)).alloc (.cells #[.bool false, .slice none 0 0, .bool false, .int .i64 0, .int .i64 0] 31)) := by go_grown
  have h' := IsRow.later h hb0
  have hz0 : ((w.alloc (.cells #[.bool false, .slice none 0 0, .bool false, .int .i64 0, .int .i64 0] 31)).alloc (.cells #[.bool false, .slice none 0 0, .bool false, .int .i64 0, .int .i64 0] 31)).heap.size = w.heap.size + 2 := by simp
  have k0 := (Bx5.new w (.bool false) (.slice none 0 0) (.bool false) (.int .i64 0) (.int .i64 0) 31).alloc (.cells #[.bool false, .slice none 0 0, .bool false, .int .i64 0, .int .i64 0] 31)
  have k1 := Bx5.new (w.alloc (.cells #[.bool false, .slice none 0 0, .bool false, .int .i64 0, .int .i64 0] 31)) (.bool false) (.slice none 0 0) (.bool false) (.int .i64 0) (.int .i64 0) 31
  simp only [World.size_alloc] at k1
  have HK : Hid (Bx5 ((w.alloc (.cells #[.bool false, .slice none 0 0, .bool false, .int .i64 0, .int .i64 0] 31)).alloc (.cells #[.bool false, .slice none 0 0, .bool false, .int .i64 0, .int .i64 0] 31)) w.heap.size (.bool false) (.slice none 0 0) (.bool false) (.int .i64 0) (.int .i64 0) ∧ Bx5 ((w.alloc (.cells #[.bool false, .slice none 0 0, .bool false, .int .i64 0, .int .i64 0] 31)).alloc (.cells #[.bool false, .slice none 0 0, .bool false, .int .i64 0, .int .i64 0] 31)) (w.heap.size + 1) (.bool false) (.slice none 0 0) (.bool false) (.int .i64 0) (.int .i64 0) ∧ ((w.alloc (.cells #[.bool false, .slice none 0 0, .bool false, .int .i64 0, .int .i64 0] 31)).alloc (.cells #[.bool false, .slice none 0 0, .bool false, .int .i64 0, .int .i64 0] 31)).heap.size = w.heap.size + 2) := ⟨k0, k1, hz0⟩
  clear k0 k1 hz0
  go_enter Try.func23, Try.ntmps23
  go_wp2_with fail
  refine (open_any a len cap zs _ h').mono ?_
  rintro e x ⟨rfl, hR, hb⟩
  rw [HK.out.2.2] at hR ⊢
  have K1 : Hid (Bx5 x w.heap.size (.bool false) (.slice none 0 0) (.bool false) (.int .i64 0) (.int .i64 0) ∧ Bx5 x (w.heap.size + 1) (.bool false) (.slice none 0 0) (.bool false) (.int .i64 0) (.int .i64 0) ∧ Below w.heap.size w x) := ⟨HK.out.1.later hb, HK.out.2.1.later hb, hb0.trans (hb.mono hb0.size)⟩
  clear hb hb0 HK h h'
  have hrx := hR.lt
  go_wp2_with fail
  refine (l71State_any (w.heap.size + 2) 0 _ hR (by omega)).mono ?_
  rintro e y1 hg1
  obtain ⟨a1, L, c1, l1, u1, p1, cap1, rfl, hl1, hs1, hD1⟩ := hg1.it
  have hz1 := hD1.size
  have K2 : Hid (Bx5 y1 w.heap.size (.bool false) (.slice none 0 0) (.bool false) (.int .i64 0) (.int .i64 0) ∧ Bx5 y1 (w.heap.size + 1) (.bool false) (.slice none 0 0) (.bool false) (.int .i64 0) (.int .i64 0) ∧ Below w.heap.size w y1 ∧ SpsAt true y1 x.heap.size y1.heap.size (.slice p1 L.length cap1) L) := ⟨hD1.bx5 K1.out.1 (by omega), hD1.bx5 K1.out.2.1 (by omega), K1.out.2.2.trans (hD1.below.mono (by omega)), hs1⟩
  have hrd := hD1.rd
  clear K1 hg1 hD1 hs1 hR
  generalize hn1 : L.length = n1 at K2 hl1 ⊢
  have HN1 : Hid (L.length = n1) := hn1
  clear hn1
  have hA := drawn_alloc (.cells #[.bool a1, .slice p1 n1 cap1, .bool c1, .int .i64 l1, .int .i64 u1] 31) hrd
  have K3 : Hid (Bx5 (y1.alloc (.cells #[.bool a1, .slice p1 n1 cap1, .bool c1, .int .i64 l1, .int .i64 u1] 31)) y1.heap.size (.bool a1) (.slice p1 n1 cap1) (.bool c1) (.int .i64 l1) (.int .i64 u1)) := Bx5.new _ _ _ _ _ _ _
  go_wp2_with fail
  refine (l71State_any (w.heap.size + 2) (0 + 40) _ hA.rd (by omega)).mono ?_
  rintro e y2 hg2
  obtain ⟨a2, M, c2, l2, u2, p2, cap2, rfl, hl2, hs2, hD2⟩ := hg2.it
  have hE := hA.trans hD2
  have hz2 := hD2.size
  have hz2a : y1.heap.size + 1 ≤ y2.heap.size := by simpa using hz2
  have hsA : (y1.alloc (.cells #[.bool a1, .slice p1 n1 cap1, .bool c1, .int .i64 l1, .int .i64 u1] 31)).heap.size = y1.heap.size + 1 := by simp
  rw [hsA] at hs2
  have K4 : Hid (Bx5 y2 w.heap.size (.bool false) (.slice none 0 0) (.bool false) (.int .i64 0) (.int .i64 0) ∧ Bx5 y2 (w.heap.size + 1) (.bool false) (.slice none 0 0) (.bool false) (.int .i64 0) (.int .i64 0) ∧ Below w.heap.size w y2 ∧ SpsAt true y2 x.heap.size y1.heap.size (.slice p1 n1 cap1) L ∧ SpsAt true y2 (y1.heap.size + 1) y2.heap.size (.slice p2 M.length cap2) M ∧ Bx5 y2 y1.heap.size (.bool a1) (.slice p1 n1 cap1) (.bool c1) (.int .i64 l1) (.int .i64 u1)) := ⟨hE.bx5 K2.out.1 (by omega), hE.bx5 K2.out.2.1 (by omega), K2.out.2.2.1.trans (hE.below.mono (by omega)), hE.sps K2.out.2.2.2 (by omega), hs2, hD2.bx5 K3.out (by omega)⟩
  have hrd2 := hE.rd
  clear K2 K3 hg2 hD2 hs2 hE hA hsA hz2 hrd
  generalize hn2 : M.length = n2 at K4 hl2 ⊢
  have HN : Hid (L.length = n1 ∧ M.length = n2) := ⟨HN1.out, hn2⟩
  clear hn2 HN1
  have hA := drawn_alloc (.cells #[.bool a2, .slice p2 n2 cap2, .bool c2, .int .i64 l2, .int .i64 u2] 31) hrd2
  have K5 : Hid (Bx5 (y2.alloc (.cells #[.bool a2, .slice p2 n2 cap2, .bool c2, .int .i64 l2, .int .i64 u2] 31)) y2.heap.size (.bool a2) (.slice p2 n2 cap2) (.bool c2) (.int .i64 l2) (.int .i64 u2)) := Bx5.new _ _ _ _ _ _ _
  go_wp2_with fail
  refine (pick_any (w.heap.size + 2) (0 + 40 + 40) 2 _ hA.rd (by omega) (by omega)).mono ?_
  rintro e y3 ⟨t, rfl, t0, t1, hD3⟩
  have hE := hA.trans hD3
  have hz3 := hD3.size
  have hz3a : y2.heap.size + 1 ≤ y3.heap.size := by simpa using hz3
  have K6 : Hid (Bx5 y3 w.heap.size (.bool false) (.slice none 0 0) (.bool false) (.int .i64 0) (.int .i64 0) ∧ Bx5 y3 (w.heap.size + 1) (.bool false) (.slice none 0 0) (.bool false) (.int .i64 0) (.int .i64 0) ∧ Below w.heap.size w y3 ∧ SpsAt true y3 x.heap.size y1.heap.size (.slice p1 n1 cap1) L ∧ SpsAt true y3 (y1.heap.size + 1) y2.heap.size (.slice p2 n2 cap2) M ∧ Bx5 y3 y1.heap.size (.bool a1) (.slice p1 n1 cap1) (.bool c1) (.int .i64 l1) (.int .i64 u1) ∧ Bx5 y3 y2.heap.size (.bool a2) (.slice p2 n2 cap2) (.bool c2) (.int .i64 l2) (.int .i64 u2)) := ⟨hE.bx5 K4.out.1 (by omega), hE.bx5 K4.out.2.1 (by omega), K4.out.2.2.1.trans (hE.below.mono (by omega)), hE.sps K4.out.2.2.2.1 (by omega), hE.sps K4.out.2.2.2.2.1 (by omega), hE.bx5 K4.out.2.2.2.2.2 (by omega), hD3.bx5 K5.out (by omega)⟩
  clear K4 K5 hD3 hE hA hz3 hrd2
  have hd : Below y3.heap.size y3 y3.drew := (Below.refl _ _).drew
  have K7 : Hid (Bx5 y3.drew w.heap.size (.bool false) (.slice none 0 0) (.bool false) (.int .i64 0) (.int .i64 0) ∧ Bx5 y3.drew (w.heap.size + 1) (.bool false) (.slice none 0 0) (.bool false) (.int .i64 0) (.int .i64 0) ∧ Below w.heap.size w y3.drew ∧ SpsAt true y3.drew x.heap.size y1.heap.size (.slice p1 n1 cap1) L ∧ SpsAt true y3.drew (y1.heap.size + 1) y2.heap.size (.slice p2 n2 cap2) M ∧ Bx5 y3.drew y1.heap.size (.bool a1) (.slice p1 n1 cap1) (.bool c1) (.int .i64 l1) (.int .i64 u1) ∧ Bx5 y3.drew y2.heap.size (.bool a2) (.slice p2 n2 cap2) (.bool c2) (.int .i64 l2) (.int .i64 u2)) := ⟨K6.out.1.later hd, K6.out.2.1.later hd, K6.out.2.2.1.trans (hd.mono K6.out.2.2.1.size), K6.out.2.2.2.1.later hd, K6.out.2.2.2.2.1.later hd, K6.out.2.2.2.2.2.1.later hd, K6.out.2.2.2.2.2.2.later hd⟩
  clear hd
  obtain ⟨_, x0, x1, x2, x3, x4, _⟩ := K7.out.2.2.2.2.2.1
  obtain ⟨_, z0, z1, z2, z3, z4, _⟩ := K7.out.2.2.2.2.2.2
  by_cases ht : t = 0
  · subst ht
    obtain ⟨⟨ra, rL, rc, rl, ru⟩, hr⟩ : ∃ r, stBoth false a1 L (c1, l1, u1) a2 M (c2, l2, u2) = r := ⟨_, rfl⟩
    have hrl : rL.length ≤ 3 := by have := stBoth_len false a1 L (c1, l1, u1) a2 M (c2, l2, u2); rw [hr] at this; exact this
    have HR : Hid (stBoth false a1 L (c1, l1, u1) a2 M (c2, l2, u2) = (ra, rL, rc, rl, ru)) := hr
    clear hr
    go_wp2_with fail
    have hk1 : w.heap.size < y1.heap.size ∧ w.heap.size < y2.heap.size ∧ w.heap.size + 1 < y1.heap.size ∧ w.heap.size + 1 < y2.heap.size := by omega
    go_region_with (first | (go_at_call 11; refine (stJoin_spec _ true true _ _ _ _ _ _ L _ _ _ _ _ M _ _ _ K7.out.2.2.2.1 K7.out.2.2.2.2.1).mono ?_; rintro e y4 ⟨v4, rfl, hS4, hb4⟩; rw [HR.out] at hS4; obtain ⟨p4, cap4, hv4⟩ := hS4.shape; simp only at hv4 hS4; subst hv4; rw [HR.out]; obtain ⟨al, a0, a1_, a2_, a3, a4, af⟩ := K7.out.1.later hb4; obtain ⟨bl, b0, b1_, b2_, b3, b4, bf⟩ := K7.out.2.1.later hb4; replace x0 := (K7.out.2.2.2.2.2.1.later hb4).c0; replace x1 := (K7.out.2.2.2.2.2.1.later hb4).c1; replace x2 := (K7.out.2.2.2.2.2.1.later hb4).c2; replace x3 := (K7.out.2.2.2.2.2.1.later hb4).c3; replace x4 := (K7.out.2.2.2.2.2.1.later hb4).c4) | fail)
    all_goals
      have hf : Below w.heap.size w y4 ∧ SpsAt true y4 x.heap.size y1.heap.size (.slice p1 n1 cap1) L ∧ SpsAt true y4 y3.heap.size y4.heap.size (.slice p4 rL.length cap4) rL ∧ y3.heap.size ≤ y4.heap.size := ⟨K7.out.2.2.1.trans (hb4.mono K7.out.2.2.1.size), K7.out.2.2.2.1.later hb4, hS4, hb4.size⟩
      have HF : Hid (Below w.heap.size w y4 ∧ SpsAt true y4 x.heap.size y1.heap.size (.slice p1 n1 cap1) L ∧ SpsAt true y4 y3.heap.size y4.heap.size (.slice p4 rL.length cap4) rL ∧ y3.heap.size ≤ y4.heap.size) := hf
      clear hf hS4 hb4 K6 K7 x0 x1 x2 x3 x4 z0 z1 z2 z3 z4
      generalize hq : rL.length = q at HF hrl ⊢
      have HQ : Hid (rL.length = q) := hq
      clear hq
      go_wp2_with fail
      refine bodyPost_ret (v := .tuple #[.agg #[.bool a1, .slice p1 n1 cap1, .bool c1, .int .i64 l1, .int .i64 u1], .agg #[.bool ra, .slice p4 q cap4, .bool rc, .int .i64 rl, .int .i64 ru]]) (by simp [results, Try.results23, go_sem, al, bl, a0, a1_, a2_, a3, a4, af, b0, b1_, b2_, b3, b4, bf]) rfl ?_
      obtain ⟨hF1, hF2, hF3, hF4⟩ := HF.out
      obtain ⟨e1, e2⟩ := HN.out
      have e3 := HQ.out
      subst e1 e2 e3
      refine ⟨_, L, _, _, _, _, _, _, rL, _, _, _, _, _, rfl, hl1, hrl, ?_, ?_, ?_⟩
      · refine SpsAt.wide (B := x.heap.size) (E := y1.heap.size) ?_ (by omega) (by simp <;> omega) (by simp)
        repeat (refine SpsAt.off ?_ (by omega))
        exact hF2
      · refine SpsAt.wide (B := y3.heap.size) (E := y4.heap.size) ?_ (by omega) (by simp <;> omega) (by simp)
        repeat (refine SpsAt.off ?_ (by omega))
        exact hF3
      · repeat (refine Below.setCell ?_ (by simp <;> omega) _)
        exact hF1
  · have ht' : (t == 0) = false := by simp [ht]
    clear x0 x1 x2 x3 x4 z0 z1 z2 z3 z4
    obtain ⟨_, x0, x1, x2, x3, x4, _⟩ := K6.out.2.2.2.2.2.1
    obtain ⟨_, z0, z1, z2, z3, z4, _⟩ := K6.out.2.2.2.2.2.2
    obtain ⟨al, a0, a1_, a2_, a3, a4, af⟩ := K6.out.1
    obtain ⟨bl, b0, b1_, b2_, b3, b4, bf⟩ := K6.out.2.1
    have af0 := af 0
    have bf0 := bf 0
    have af1 := af 1
    have bf1 := bf 1
    have af2 := af 2
    have bf2 := bf 2
    have af3 := af 3
    have bf3 := bf 3
    have af4 := af 4
    have bf4 := bf 4
    have hk1 : w.heap.size < y1.heap.size ∧ w.heap.size < y2.heap.size ∧ w.heap.size + 1 < y1.heap.size ∧ w.heap.size + 1 < y2.heap.size := by omega
    go_wp2_with fail
    go_region
    all_goals
      have HF : Hid (Below w.heap.size w y3 ∧ SpsAt true y3 x.heap.size y1.heap.size (.slice p1 n1 cap1) L ∧ SpsAt true y3 (y1.heap.size + 1) y2.heap.size (.slice p2 n2 cap2) M) := ⟨K6.out.2.2.1, K6.out.2.2.2.1, K6.out.2.2.2.2.1⟩
      clear K6 K7
      go_wp2_with fail
      refine bodyPost_ret (v := .tuple #[.agg #[.bool a1, .slice p1 n1 cap1, .bool c1, .int .i64 l1, .int .i64 u1], .agg #[.bool a2, .slice p2 n2 cap2, .bool c2, .int .i64 l2, .int .i64 u2]]) (by simp [results, Try.results23, go_sem, al, bl, a0, a1_, a2_, a3, a4, af, b0, b1_, b2_, b3, b4, bf]) rfl ?_
      obtain ⟨hF1, hF2, hF3⟩ := HF.out
      obtain ⟨e1, e2⟩ := HN.out
      subst e1 e2
      have hdr : ∀ {W : World}, Below W.heap.size W W.drew := fun {W} => (Below.refl _ _).drew
      refine ⟨_, L, _, _, _, _, _, _, M, _, _, _, _, _, rfl, hl1, hl2, ?_, ?_, ?_⟩
      · refine SpsAt.later ?_ hdr
        refine SpsAt.wide (B := x.heap.size) (E := y1.heap.size) ?_ (by omega) (by simp <;> omega) (by simp)
        repeat (refine SpsAt.off ?_ (by omega))
        exact hF2
      · refine SpsAt.later ?_ hdr
        refine SpsAt.wide (B := y1.heap.size + 1) (E := y2.heap.size) ?_ (by omega) (by simp <;> omega) (by simp)
        repeat (refine SpsAt.off ?_ (by omega))
        exact hF3
      · refine Below.drew ?_
        repeat (refine Below.setCell ?_ (by simp <;> omega) _)
        exact hF1
end Go.Proofs.Ytdomalclpjijaaa
