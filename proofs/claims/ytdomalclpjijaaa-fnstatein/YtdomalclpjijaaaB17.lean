import Derived.Test.YtdomalclpjijaaaB16
import Derived.Test.YtdomalclpjijaaaB13
/-
  The contract of the program's StateIn where neither is none.
-/
namespace Go.Proofs.Ytdomalclpjijaaa
open Go.RowKit Go.Shelf
set_option linter.unusedVariables false
set_option linter.unusedSimpArgs false
attribute [local go_sem] Oper.semAt_some

theorem upto_all_no {α : Type} {f : Nat → α} {q : α → Bool} {k n : Nat} (hk : k ≤ n) (h : (upto f k).all q = false) : (upto f n).all q = false := by
  rw [List.all_eq_false] at h ⊢
  obtain ⟨y, hy, hq⟩ := h
  refine ⟨y, ?_, hq⟩
  simp only [upto, List.mem_map, List.mem_range] at hy ⊢
  obtain ⟨j, hj, e⟩ := hy
  exact ⟨j, by omega, e⟩

set_option maxHeartbeats 4000000 in
theorem stIn_both (x : World) (z z' : Bool) (B E C D : Nat) (v : Value) (L : List Sp) (c : Bool) (l u : Int) (v' : Value) (M : List Sp) (d : Bool) (l' u' : Int) (hoa : stOk true L (c, l, u) = true) (hob : stOk true M (d, l', u') = true) (h : SpsAt z x B E v L) (h' : SpsAt z' x C D v' M) :
    Calls Try.prog 24 #[.agg #[.bool true, v, .bool c, .int .i64 l, .int .i64 u], .agg #[.bool true, v', .bool d, .int .i64 l', .int .i64 u']] x fun e y => e = .returned (.bool (stIn true L (c, l, u) true M (d, l', u'))) ∧ Below x.heap.size x y := by
  obtain ⟨p, cap, hv⟩ := h.shape
  obtain ⟨p', cap', hv'⟩ := h'.shape
  generalize hn : L.length = n at hv
  generalize hm : M.length = m at hv'
  subst hv hv'
  have HN : Hid (L.length = n) := hn
  have HM : Hid (M.length = m) := hm
  clear hn hm
  have hba : Below x.heap.size x (((x.alloc (.cells #[.bool true, .slice p n cap, .bool c, .int .i64 l, .int .i64 u] 31)).alloc (.cells #[.bool true, .slice p' m cap', .bool d, .int .i64 l', .int .i64 u'] 31)).alloc (.cells #[.bool false] 4)) := by go_grown
  have ka := ((Bx5.new x (.bool true) (.slice p n cap) (.bool c) (.int .i64 l) (.int .i64 u) 31).alloc (.cells #[.bool true, .slice p' m cap', .bool d, .int .i64 l', .int .i64 u'] 31)).alloc (.cells #[.bool false] 4)
  have kb := (Bx5.new (x.alloc (.cells #[.bool true, .slice p n cap, .bool c, .int .i64 l, .int .i64 u] 31)) (.bool true) (.slice p' m cap') (.bool d) (.int .i64 l') (.int .i64 u') 31).alloc (.cells #[.bool false] 4)
  have kr := Boxed.new ((x.alloc (.cells #[.bool true, .slice p n cap, .bool c, .int .i64 l, .int .i64 u] 31)).alloc (.cells #[.bool true, .slice p' m cap', .bool d, .int .i64 l', .int .i64 u'] 31)) 4 (.bool false)
  simp only [World.size_alloc] at kb kr
  have hZ : (((x.alloc (.cells #[.bool true, .slice p n cap, .bool c, .int .i64 l, .int .i64 u] 31)).alloc (.cells #[.bool true, .slice p' m cap', .bool d, .int .i64 l', .int .i64 u'] 31)).alloc (.cells #[.bool false] 4)).heap.size = x.heap.size + 3 := by simp
  have h3 := h.later hba
  have h3' := h'.later hba
  refine (callsIn_wide (n := 8)).1 ?_
  refine callsIn_of_wp_marks Try.func24 rfl trivial ?_ rfl
  simp only [Try.ntmps24, List.size_toArray, List.length_cons, List.length_nil, Nat.reduceAdd, Nat.reduceSub, Array.replicate_succ, Array.replicate_zero, List.push_toArray, List.append_toArray, List.nil_append, List.cons_append]
  gi_wp2_with fail
  refine ⟨trivial, ?_⟩
  refine (callsIn_wide.2 (stOk_impl _ z B E _ _ L _ _ _ h3)).mono ?_
  rintro e w1 ⟨rfl, hb⟩
  rw [hoa]
  replace hba := hba.trans (hb.mono hba.size)
  replace ka := ka.later hb
  replace kb := kb.later hb
  replace kr := boxed_later kr hb
  replace h3 := h3.later hb
  replace h3' := h3'.later hb
  have hZ1 := hb.size
  clear hb
  obtain ⟨_, a0, a1, a2, a3, a4, _⟩ := id ka
  obtain ⟨_, b0, b1, b2, b3, b4, _⟩ := id kb
  have r0 := kr.cell
  have rf := kr.frozen
  gi_wp2_with fail
  clear a0 a1 a2 a3 a4 b0 b1 b2 b3 b4 r0 rf
  refine ⟨trivial, ?_⟩
  refine (callsIn_wide.2 (stOk_impl _ z' C D _ _ M _ _ _ h3')).mono ?_
  rintro e w2 ⟨rfl, hb⟩
  rw [hob]
  replace hba := hba.trans (hb.mono hba.size)
  replace ka := ka.later hb
  replace kb := kb.later hb
  replace kr := boxed_later kr hb
  replace h3 := h3.later hb
  replace h3' := h3'.later hb
  have hZ2 := hb.size
  clear hb
  obtain ⟨_, a0, a1, a2, a3, a4, _⟩ := id ka
  obtain ⟨_, b0, b1, b2, b3, b4, _⟩ := id kb
  have r0 := kr.cell
  have rf := kr.frozen
  gi_wp2_with fail
  refine ⟨trivial, ?_⟩
  refine (callsIn_wide.2 (pairs_any _ _ _ _ _ _ _ _ _ _ _ rfl rfl)).mono ?_
  rintro e w3 ⟨rfl, rfl⟩
  gi_wp2_with fail
  have hn3 : n = 3 := HN.out.symm.trans (stOk_len' hoa)
  have hm3 : m = 3 := HM.out.symm.trans (stOk_len' hob)
  subst hn3 hm3
  obtain ⟨g, o, hgo, hgx, hl3⟩ : ∃ g o, p = some ⟨g, o, none⟩ ∧ g < w2.heap.size ∧ ∀ j, j < 3 → Spn w2 g (o + j * 3) (L.getD j noSp) := by
    obtain ⟨p1, cap1, hv1, _, hq⟩ := h3
    injection hv1 with e1
    rcases hq with h0 | ⟨g, o, hp, _, hgE, hEx, _, hj⟩
    · rw [HN.out] at h0; omega
    · rw [HN.out] at hj
      exact ⟨g, o, e1.trans hp, by omega, hj⟩
  obtain ⟨g', o', hgo', hgx', hl3'⟩ : ∃ g o, p' = some ⟨g, o, none⟩ ∧ g < w2.heap.size ∧ ∀ j, j < 3 → Spn w2 g (o + j * 3) (M.getD j noSp) := by
    obtain ⟨p1, cap1, hv1, _, hq⟩ := h3'
    injection hv1 with e1
    rcases hq with h0 | ⟨g, o, hp, _, hgE, hEx, _, hj⟩
    · rw [HM.out] at h0; omega
    · rw [HM.out] at hj
      exact ⟨g, o, e1.trans hp, by omega, hj⟩
  subst hgo hgo'
  have nb := Bx5.new (w2.alloc (.cells #[.bool true, .slice (some ⟨g, o, none⟩) 3 cap, .bool c, .int .i64 l, .int .i64 u] 31)) (.bool true) (.slice (some ⟨g', o', none⟩) 3 cap') (.bool d) (.int .i64 l') (.int .i64 u') 31
  have na := (Bx5.new w2 (.bool true) (.slice (some ⟨g, o, none⟩) 3 cap) (.bool c) (.int .i64 l) (.int .i64 u) 31).alloc (.cells #[.bool true, .slice (some ⟨g', o', none⟩) 3 cap', .bool d, .int .i64 l', .int .i64 u'] 31)
  have hw0 : Below w2.heap.size w2 ((w2.alloc (.cells #[.bool true, .slice (some ⟨g, o, none⟩) 3 cap, .bool c, .int .i64 l, .int .i64 u] 31)).alloc (.cells #[.bool true, .slice (some ⟨g', o', none⟩) 3 cap', .bool d, .int .i64 l', .int .i64 u'] 31)) := ((Below.refl _ w2).alloc (Nat.le_refl _) _).alloc (by simp) _
  have hsz : ((w2.alloc (.cells #[.bool true, .slice (some ⟨g, o, none⟩) 3 cap, .bool c, .int .i64 l, .int .i64 u] 31)).alloc (.cells #[.bool true, .slice (some ⟨g', o', none⟩) 3 cap', .bool d, .int .i64 l', .int .i64 u'] 31)).heap.size = w2.heap.size + 2 := by simp
  simp only [World.size_alloc] at nb
  obtain ⟨W0, hW0⟩ : ∃ W0, (w2.alloc (.cells #[.bool true, .slice (some ⟨g, o, none⟩) 3 cap, .bool c, .int .i64 l, .int .i64 u] 31)).alloc (.cells #[.bool true, .slice (some ⟨g', o', none⟩) 3 cap', .bool d, .int .i64 l', .int .i64 u'] 31) = W0 := ⟨_, rfl⟩
  rw [hW0] at nb na hw0 hsz ⊢
  clear hW0
  have hB0 : Below x.heap.size x W0 := hba.trans (hw0.mono hba.size)
  have bR : Boxed W0 (x.heap.size + 1 + 1) 4 (.bool false) := boxed_later kr hw0
  have hRl : x.heap.size + 1 + 1 < w2.heap.size := kr.lt
  have hP : PairsAt W0 W0.heap.size w2.heap.size (w2.heap.size + 1) L M (c, l, u) (d, l', u') g o cap g' o' cap' :=
    ⟨by omega, by omega, by omega, by omega, na.c1, na.c2, na.c3, na.c4, nb.c1, nb.c2, nb.c3, nb.c4, fun j hj => (hl3 j hj).later hw0 hgx, fun j hj => (hl3' j hj).later hw0 hgx'⟩
  clear a0 a1 a2 a3 a4 b0 b1 b2 b3 b4 r0 rf ka kb kr h3 h3' nb na h h' hl3 hl3'
  have hx0 : x.heap.size + 3 ≤ w2.heap.size := by omega
  refine wpIn_rangeFunc_ownH rfl (by omega) (gf := 66) (lb := #[.pointer (some ⟨w2.heap.size, 0, none⟩), .pointer (some ⟨w2.heap.size + 1, 0, none⟩)]) rfl trivial (enters_of Try.func66 (by kernel_rfl) rfl)
    (pairs_stops 7 (by omega) w2.heap.size (w2.heap.size + 1) W0.heap.size L M (c, l, u) (d, l', u') g o cap g' o' cap' W0 (Nat.le_refl _) hP) belowK_t (belowK_b (Nat.le_refl _)) (Below.refl _ _) (fun _ => rfl)
    (fun pre W => Boxed W (x.heap.size + 1 + 1) 4 (.bool false) ∧ (Below W0.heap.size W0 W ∧ pre.all (fun p => inS p.1 p.2) = true))
    (fun cc pre W => Boxed W (x.heap.size + 1 + 1) 4 (.bool false) ∧ (Below x.heap.size x W ∧ (cc = .ret ∧ pre.all (fun p => inS p.1 p.2) = false)))
    (OwnFrom.and (Own.from (boxed_own _ _ _) _) (OwnFrom.and (ownFrom_below (Nat.le_refl _) (by omega)) (ownFrom_pure _ _)))
    (fun cc => OwnFrom.and (Own.from (boxed_own _ _ _) _) (OwnFrom.and (ownFrom_below (Nat.le_refl _) (by omega)) (ownFrom_pure _ _)))
    ⟨bR, Below.refl _ _, rfl⟩
    (fun y a' W => ∃ B1 B2, (Bxs W B1 y.1 ∧ Bxs W B2 y.2) ∧ a' = { tmps := #[.agg #[.bool true, .slice (some ⟨g, o, none⟩) 3 cap, .bool c, .int .i64 l, .int .i64 u], .agg #[.bool true, .slice (some ⟨g', o', none⟩) 3 cap', .bool d, .int .i64 l', .int .i64 u'], .pointer (some ⟨x.heap.size, 0, none⟩), .pointer (some ⟨x.heap.size + 1, 0, none⟩), .pointer (some ⟨x.heap.size + 1 + 1, 0, none⟩), .pointer (some ⟨B1, 0, none⟩), .pointer (some ⟨B2, 0, none⟩), .agg #[.bool true, .slice (some ⟨g, o, none⟩) 3 cap, .bool c, .int .i64 l, .int .i64 u], .bool true, .bool false, .bool false, .agg #[.bool true, .slice (some ⟨g', o', none⟩) 3 cap', .bool d, .int .i64 l', .int .i64 u'], .bool true, .bool false, .bool false, .pointer (some ⟨x.heap.size, 0, none⟩), .bool true, .bool false, .bool false, .pointer (some ⟨x.heap.size + 1, 0, none⟩), .bool true, .bool false, .bool false, undef, undef, undef, .agg #[.bool true, .slice (some ⟨g, o, none⟩) 3 cap, .bool c, .int .i64 l, .int .i64 u], .agg #[.bool true, .slice (some ⟨g', o', none⟩) 3 cap', .bool d, .int .i64 l', .int .i64 u'], .func (.func 66) #[] #[.pointer (some ⟨w2.heap.size, 0, none⟩), .pointer (some ⟨w2.heap.size + 1, 0, none⟩)], .agg #[.bool y.1.1, .int .i64 y.1.2.1, .int .i64 y.1.2.2], .agg #[.bool y.2.1, .int .i64 y.2.2.1, .int .i64 y.2.2.2], undef, undef, undef, undef], defers := [] })
    (fun y a' _ X Y row hs hg hr => by obtain ⟨B1, B2, ⟨h1, h2⟩, h3⟩ := hs; exact ⟨B1, B2, ⟨bxs_own B1 (fun (_ : Unit) => y.1) () X Y row h1 hg (fun r e => (hr r e).2), bxs_own B2 (fun (_ : Unit) => y.2) () X Y row h2 hg (fun r e => (hr r e).2)⟩, h3⟩)
    ?assign ?body ?done ?stop
  case assign =>
    rintro q pre y W K ⟨bS, hB1, hall⟩ hK
    unfold encP
    have hsW := hB1.size
    have hlW := bS.lt
    gi_wp2
    exact hK _ _ (((KeepsOthers.alloc _ _).from _).trans ((KeepsOthers.alloc _ _).from _)) (((Below.refl _ W).alloc hsW _).alloc (by simp; omega) _) ⟨(bS.alloc _).alloc _, (hB1.alloc hsW _).alloc (by simp; omega) _, hall⟩ ⟨W.heap.size, W.heap.size + 1, ⟨(Bxs.new W y.1).alloc _, by have := Bxs.new (W.alloc (.cells #[.bool y.1.1, .int .i64 y.1.2.1, .int .i64 y.1.2.2] 29)) y.2; rwa [World.size_alloc] at this⟩, rfl⟩
  case body =>
    rintro q pre y a' W hq ⟨r, hr⟩ ⟨bS, hB1, hall⟩ ⟨B1, B2, ⟨k1, k2⟩, rfl⟩ hlt
    obtain ⟨⟨s0, s1, s2⟩, ⟨t0, t1, t2⟩⟩ := y
    obtain ⟨c10, c11, c12⟩ := k1.cells
    obtain ⟨c20, c21, c22⟩ := k2.cells
    have cS := bS.cell
    have fS := bS.frozen
    simp only at c10 c11 c12 c20 c21 c22
    gi_wp2_with fail
    refine ⟨trivial, ?_⟩
    refine (CallsIn.inRound q (callsIn_wide.2 (inS_impl _ _ _ _ _ _ _))).mono ?_
    rintro e w5 ⟨rfl, hb5⟩
    have bS5 := boxed_later bS hb5
    clear cS fS c10 c11 c12 c20 c21 c22
    have cS := bS5.cell
    have fS := bS5.frozen
    have hBx := (hB0.trans (hB1.mono hB0.size)).trans (hb5.mono (Nat.le_trans hB0.size hB1.size))
    cases hs : inS (s0, s1, s2) (t0, t1, t2)
    · gi_wp2
      exact ⟨(keepsFrom_of_below hb5).trans ((KeepsOthers.setCell _ _ _).from _), bS5.set _, hBx.setCell (p := ⟨x.heap.size + 1 + 1, 0, none⟩) (by simp; omega) _, rfl, by rw [List.all_append]; simp [hs]⟩
    · gi_wp2
      exact ⟨keepsFrom_of_below hb5, hb5.mono hB1.size, bS5, hB1.trans (hb5.mono hB1.size), by rw [List.all_append, hall]; simp [hs]⟩
  case done =>
    rintro D' ys W hD rfl ⟨bS, hB1, hall⟩ hK
    have cS := bS.cell
    have fS := bS.frozen
    gi_wp2
    have hK' := (KeepsOthers.setCell W ⟨x.heap.size + 1 + 1, 0, none⟩ (.bool true)).same D' _ hK rfl
    refine ⟨by simp, .inl ⟨_, _, rfl, run_takeDeferred hK', ?_⟩⟩
    have hc5 := cell_kept (bS.set (.bool true)).cell (grownBy_putObj' _ D' (.deferred none)) (fun r e => by cases e; exact ⟨_, hK', rfl⟩)
    refine ⟨.bool true, ?_, ?_, ((hB0.trans (hB1.mono hB0.size)).setCell (p := ⟨x.heap.size + 1 + 1, 0, none⟩) (by simp; omega) _).trans (belowK_b (w := W0) hB0.size _ D' _ _ hD hK' rfl rfl)⟩
    · simp [results, Try.results24, go_sem, hc5]
    · refine ret_bool ?_
      unfold stIn
      rw [hoa, hob, hall]
      rfl
  case stop =>
    rintro D' cc pre W hD ⟨k, hk, rfl⟩ ⟨bS, hB1, rfl, hall⟩ hK
    have cS := bS.cell
    gi_wp2
    refine ⟨by simp, .inl ⟨_, _, rfl, run_takeDeferred hK, ?_⟩⟩
    have hc5 := cell_kept cS (grownBy_putObj' _ D' (.deferred none)) (fun r e => by cases e; exact ⟨_, hK, rfl⟩)
    refine ⟨.bool false, ?_, ?_, hB1.trans (belowK_b (w := W0) hB0.size _ D' _ _ hD hK rfl rfl)⟩
    · simp [results, Try.results24, go_sem, hc5]
    · refine ret_bool ?_
      unfold stIn
      rw [hoa, hob, upto_all_no hk hall]
      rfl

theorem stIn_impl (x : World) (z z' : Bool) (B E C D : Nat) (a : Bool) (v : Value) (L : List Sp) (c : Bool) (l u : Int) (b : Bool) (v' : Value) (M : List Sp) (d : Bool) (l' u' : Int) (h : SpsAt z x B E v L) (h' : SpsAt z' x C D v' M) :
    Calls Try.prog 24 #[.agg #[.bool a, v, .bool c, .int .i64 l, .int .i64 u], .agg #[.bool b, v', .bool d, .int .i64 l', .int .i64 u']] x fun e y => e = .returned (.bool (stIn a L (c, l, u) b M (d, l', u'))) ∧ Below x.heap.size x y := by
  cases hh : (stOk a L (c, l, u) && stOk b M (d, l', u') && a && b)
  · exact stIn_early x z z' B E C D a v L c l u b v' M d l' u' hh h h'
  · simp only [Bool.and_eq_true] at hh
    obtain ⟨⟨⟨hoa, hob⟩, rfl⟩, rfl⟩ := hh
    exact stIn_both x z z' B E C D v L c l u v' M d l' u' hoa hob h h'
end Go.Proofs.Ytdomalclpjijaaa

/-
  The contract of the model's StateIn.
-/
namespace Go.Proofs.Ytdomalclpjijaaa
open Go.RowKit
set_option linter.unusedVariables false
set_option linter.unusedSimpArgs false

theorem inS_spec (a : Bool) (al ah : Int) (b : Bool) (bl bh : Int) (w : World) : Calls Try.prog 51 #[.agg #[.bool a, .int .i64 al, .int .i64 ah], .agg #[.bool b, .int .i64 bl, .int .i64 bh]] w fun e w' => e = .returned (.bool (inS (a, al, ah) (b, bl, bh))) ∧ Below w.heap.size w w' := in_spec a al ah b bl bh w
/-- the pairs of the first three are of the registers -/
theorem pairs_yes {L M : List Sp} {c d : Sp} (q : Sp × Sp → Bool) (h : ∀ j, j < 3 → q (L.getD j noSp, M.getD j noSp) = true) : (upto (pairF L M c d) 4).all q = q (c, d) := by
  have h0 := h 0 (by omega)
  have h1 := h 1 (by omega)
  have h2 := h 2 (by omega)
  simp only [upto, List.range_succ, List.range_zero, List.map_append, List.map_cons, List.map_nil, List.all_append, List.all_cons, List.all_nil, pairF]
  simp only [List.nil_append, List.map_append, List.map_cons, List.map_nil, List.all_append, List.all_cons, List.all_nil, show (0 : Nat) < 3 by omega, show (1 : Nat) < 3 by omega, show (2 : Nat) < 3 by omega, show ¬ (3 : Nat) < 3 by omega, if_true, if_false, h0, h1, h2, Bool.true_and, Bool.and_true]
theorem pairs_no {L M : List Sp} {c d : Sp} (q : Sp × Sp → Bool) {j : Nat} (hj : j < 3) (h : q (L.getD j noSp, M.getD j noSp) = false) : (upto (pairF L M c d) 4).all q = false := by
  rw [List.all_eq_false]
  refine ⟨pairF L M c d j, ?_, ?_⟩
  · simp only [upto, List.mem_map, List.mem_range]
    exact ⟨j, by omega, rfl⟩
  · unfold pairF
    rw [if_pos hj, h]
    simp
theorem SpsAt.three {z : Bool} {x : World} {B E : Nat} {p : Option Addr} {cap : Nat} {L : List Sp} (h : SpsAt z x B E (.slice p 3 cap) L) (hL : L.length = 3) : ∃ g o, p = some ⟨g, o, none⟩ ∧ g < x.heap.size ∧ ∀ j, j < 3 → Spn x g (o + j * 3) (L.getD j noSp) := by
  obtain ⟨p1, cap1, hv1, _, hq⟩ := h
  injection hv1 with e1
  rcases hq with h0 | ⟨g, o, hp, _, hgE, hEx, _, hj⟩
  · omega
  · rw [hL] at hj
    exact ⟨g, o, e1.trans hp, by omega, hj⟩
theorem keep8s {w y : World} {m1 m2 g o g' o' k : Nat} {v1 v2 : Value} {i0 j0 : Bool} {i1 i2 j1 j2 : Int} (h : (fun z => z.cell? ⟨m1, 1, none⟩ = some v1 ∧ z.cell? ⟨m2, 1, none⟩ = some v2 ∧ z.cell? ⟨g, o + k * 3, none⟩ = some (.bool i0) ∧ z.cell? ⟨g, o + k * 3 + 1, none⟩ = some (.int .i64 i1) ∧ z.cell? ⟨g, o + k * 3 + 2, none⟩ = some (.int .i64 i2) ∧ z.cell? ⟨g', o' + k * 3, none⟩ = some (.bool j0) ∧ z.cell? ⟨g', o' + k * 3 + 1, none⟩ = some (.int .i64 j1) ∧ z.cell? ⟨g', o' + k * 3 + 2, none⟩ = some (.int .i64 j2)) w) (hb : Below w.heap.size w y) (hm1 : m1 < w.heap.size) (hm2 : m2 < w.heap.size) (hg : g < w.heap.size) (hg' : g' < w.heap.size) : (fun z => z.cell? ⟨m1, 1, none⟩ = some v1 ∧ z.cell? ⟨m2, 1, none⟩ = some v2 ∧ z.cell? ⟨g, o + k * 3, none⟩ = some (.bool i0) ∧ z.cell? ⟨g, o + k * 3 + 1, none⟩ = some (.int .i64 i1) ∧ z.cell? ⟨g, o + k * 3 + 2, none⟩ = some (.int .i64 i2) ∧ z.cell? ⟨g', o' + k * 3, none⟩ = some (.bool j0) ∧ z.cell? ⟨g', o' + k * 3 + 1, none⟩ = some (.int .i64 j1) ∧ z.cell? ⟨g', o' + k * 3 + 2, none⟩ = some (.int .i64 j2)) y := by
  obtain ⟨c1, c2, d0, d1, d2, e0, e1, e2⟩ := h
  exact ⟨(hb.cell (p := ⟨m1, _, none⟩) hm1).trans c1, (hb.cell (p := ⟨m2, _, none⟩) hm2).trans c2, (hb.cell (p := ⟨g, _, none⟩) hg).trans d0, (hb.cell (p := ⟨g, _, none⟩) hg).trans d1, (hb.cell (p := ⟨g, _, none⟩) hg).trans d2, (hb.cell (p := ⟨g', _, none⟩) hg').trans e0, (hb.cell (p := ⟨g', _, none⟩) hg').trans e1, (hb.cell (p := ⟨g', _, none⟩) hg').trans e2⟩

set_option maxHeartbeats 4000000 in
theorem stIn_spec (x : World) (z z' : Bool) (B E C D : Nat) (a : Bool) (v : Value) (L : List Sp) (c : Bool) (l u : Int) (b : Bool) (v' : Value) (M : List Sp) (d : Bool) (l' u' : Int) (h : SpsAt z x B E v L) (h' : SpsAt z' x C D v' M) :
    Calls Try.prog 25 #[.agg #[.bool a, v, .bool c, .int .i64 l, .int .i64 u], .agg #[.bool b, v', .bool d, .int .i64 l', .int .i64 u']] x fun e y => e = .returned (.bool (stIn a L (c, l, u) b M (d, l', u'))) ∧ Below x.heap.size x y := by
  obtain ⟨p, cap, hv⟩ := h.shape
  obtain ⟨p', cap', hv'⟩ := h'.shape
  generalize hn : L.length = n at hv
  generalize hm : M.length = m at hv'
  subst hv hv'
  have HN : Hid (L.length = n) := hn
  have HM : Hid (M.length = m) := hm
  clear hn hm
  have hba : Below x.heap.size x ((x.alloc (.cells #[.bool a, .slice p n cap, .bool c, .int .i64 l, .int .i64 u] 31)).alloc (.cells #[.bool b, .slice p' m cap', .bool d, .int .i64 l', .int .i64 u'] 31)) := by go_grown
  have ka := (Bx5.new x (.bool a) (.slice p n cap) (.bool c) (.int .i64 l) (.int .i64 u) 31).alloc (.cells #[.bool b, .slice p' m cap', .bool d, .int .i64 l', .int .i64 u'] 31)
  have kb := Bx5.new (x.alloc (.cells #[.bool a, .slice p n cap, .bool c, .int .i64 l, .int .i64 u] 31)) (.bool b) (.slice p' m cap') (.bool d) (.int .i64 l') (.int .i64 u') 31
  simp only [World.size_alloc] at kb
  have h3 := h.later hba
  have h3' := h'.later hba
  cases hoa : stOk a L (c, l, u)
  · go_enter Try.func25, Try.ntmps25
    go_wp2_with fail
    refine (stOk_spec _ z B E _ _ L _ _ _ h3).mono ?_
    rintro e w1 ⟨rfl, hb⟩
    rw [hoa]
    replace hba := hba.trans (hb.mono hba.size)
    replace ka := ka.later hb
    replace kb := kb.later hb
    replace h3 := h3.later hb
    replace h3' := h3'.later hb
    clear hb
    obtain ⟨_, a0, a1, a2, a3, a4, _⟩ := id ka
    obtain ⟨_, b0, b1, b2, b3, b4, _⟩ := id kb
    go_wp2_with fail
    go_ret
    exact ⟨ret_bool (by unfold stIn; rw [hoa]; simp), hba⟩
  cases hob : stOk b M (d, l', u')
  · go_enter Try.func25, Try.ntmps25
    go_wp2_with fail
    refine (stOk_spec _ z B E _ _ L _ _ _ h3).mono ?_
    rintro e w1 ⟨rfl, hb⟩
    rw [hoa]
    replace hba := hba.trans (hb.mono hba.size)
    replace ka := ka.later hb
    replace kb := kb.later hb
    replace h3 := h3.later hb
    replace h3' := h3'.later hb
    clear hb
    obtain ⟨_, a0, a1, a2, a3, a4, _⟩ := id ka
    obtain ⟨_, b0, b1, b2, b3, b4, _⟩ := id kb
    go_wp2_with fail
    clear a0 a1 a2 a3 a4 b0 b1 b2 b3 b4
    refine (stOk_spec _ z' C D _ _ M _ _ _ h3').mono ?_
    rintro e w2 ⟨rfl, hb⟩
    rw [hob]
    replace hba := hba.trans (hb.mono hba.size)
    replace ka := ka.later hb
    replace kb := kb.later hb
    replace h3 := h3.later hb
    replace h3' := h3'.later hb
    clear hb
    obtain ⟨_, a0, a1, a2, a3, a4, _⟩ := id ka
    obtain ⟨_, b0, b1, b2, b3, b4, _⟩ := id kb
    go_wp2_with fail
    go_ret
    exact ⟨ret_bool (by unfold stIn; rw [hob]; simp), hba⟩
  cases a
  · go_enter Try.func25, Try.ntmps25
    go_wp2_with fail
    refine (stOk_spec _ z B E _ _ L _ _ _ h3).mono ?_
    rintro e w1 ⟨rfl, hb⟩
    rw [hoa]
    replace hba := hba.trans (hb.mono hba.size)
    replace ka := ka.later hb
    replace kb := kb.later hb
    replace h3 := h3.later hb
    replace h3' := h3'.later hb
    clear hb
    obtain ⟨_, a0, a1, a2, a3, a4, _⟩ := id ka
    obtain ⟨_, b0, b1, b2, b3, b4, _⟩ := id kb
    go_wp2_with fail
    clear a0 a1 a2 a3 a4 b0 b1 b2 b3 b4
    refine (stOk_spec _ z' C D _ _ M _ _ _ h3').mono ?_
    rintro e w2 ⟨rfl, hb⟩
    rw [hob]
    replace hba := hba.trans (hb.mono hba.size)
    replace ka := ka.later hb
    replace kb := kb.later hb
    replace h3 := h3.later hb
    replace h3' := h3'.later hb
    clear hb
    obtain ⟨_, a0, a1, a2, a3, a4, _⟩ := id ka
    obtain ⟨_, b0, b1, b2, b3, b4, _⟩ := id kb
    go_wp2_with fail
    go_ret
    exact ⟨ret_bool (by unfold stIn; rw [hoa, hob]; simp), hba⟩
  cases b
  · go_enter Try.func25, Try.ntmps25
    go_wp2_with fail
    refine (stOk_spec _ z B E _ _ L _ _ _ h3).mono ?_
    rintro e w1 ⟨rfl, hb⟩
    rw [hoa]
    replace hba := hba.trans (hb.mono hba.size)
    replace ka := ka.later hb
    replace kb := kb.later hb
    replace h3 := h3.later hb
    replace h3' := h3'.later hb
    clear hb
    obtain ⟨_, a0, a1, a2, a3, a4, _⟩ := id ka
    obtain ⟨_, b0, b1, b2, b3, b4, _⟩ := id kb
    go_wp2_with fail
    clear a0 a1 a2 a3 a4 b0 b1 b2 b3 b4
    refine (stOk_spec _ z' C D _ _ M _ _ _ h3').mono ?_
    rintro e w2 ⟨rfl, hb⟩
    rw [hob]
    replace hba := hba.trans (hb.mono hba.size)
    replace ka := ka.later hb
    replace kb := kb.later hb
    replace h3 := h3.later hb
    replace h3' := h3'.later hb
    clear hb
    obtain ⟨_, a0, a1, a2, a3, a4, _⟩ := id ka
    obtain ⟨_, b0, b1, b2, b3, b4, _⟩ := id kb
    go_wp2_with fail
    go_ret
    exact ⟨ret_bool (by unfold stIn; rw [hoa, hob]; simp), hba⟩
  have hn3 : n = 3 := HN.out.symm.trans (stOk_len' hoa)
  have hm3 : m = 3 := HM.out.symm.trans (stOk_len' hob)
  subst hn3 hm3
  obtain ⟨g, o, rfl, hgx, hl3⟩ := h.three HN.out
  obtain ⟨g', o', rfl, hgx', hl3'⟩ := h'.three HM.out
  have HX : Hid (∀ j, j < 3 → Spn x g (o + j * 3) (L.getD j noSp)) := hl3
  have HX' : Hid (∀ j, j < 3 → Spn x g' (o' + j * 3) (M.getD j noSp)) := hl3'
  clear hl3 hl3'
  go_enter Try.func25, Try.ntmps25
  go_wp2_with fail
  refine (stOk_spec _ z B E _ _ L _ _ _ h3).mono ?_
  rintro e w1 ⟨rfl, hb⟩
  rw [hoa]
  replace hba := hba.trans (hb.mono hba.size)
  replace ka := ka.later hb
  replace kb := kb.later hb
  replace h3 := h3.later hb
  replace h3' := h3'.later hb
  clear hb
  obtain ⟨_, a0, a1, a2, a3, a4, _⟩ := id ka
  obtain ⟨_, b0, b1, b2, b3, b4, _⟩ := id kb
  go_wp2_with fail
  clear a0 a1 a2 a3 a4 b0 b1 b2 b3 b4
  refine (stOk_spec _ z' C D _ _ M _ _ _ h3').mono ?_
  rintro e w2 ⟨rfl, hb⟩
  rw [hob]
  replace hba := hba.trans (hb.mono hba.size)
  replace ka := ka.later hb
  replace kb := kb.later hb
  replace h3 := h3.later hb
  replace h3' := h3'.later hb
  clear hb
  obtain ⟨_, a0, a1, a2, a3, a4, _⟩ := id ka
  obtain ⟨_, b0, b1, b2, b3, b4, _⟩ := id kb
  clear h3 h3' h h'
  go_wp2_with fail
  clear a0 a1 a2 a3 a4 b0 b1 b2 b3 b4
  have hE : w2.heap.size = w2.heap.size := rfl
  go_loopw [5] (fun t y => ∃ k : Nat, k ≤ 3 ∧ t = .int .i64 k ∧ Below w2.heap.size w2 y ∧ (∀ j, j < k → inS (L.getD j noSp) (M.getD j noSp) = true)) (fun t _ => 3 - (intOf t).toNat)
  case atStart => exact ⟨0, by omega, rfl, Below.refl _ _, fun j hj => by omega⟩
  case round =>
    clear hE
    obtain ⟨k, hk, rfl, hB, hd⟩ := hrel
    have HD : Hid (∀ j, j < k → inS (L.getD j noSp) (M.getD j noSp) = true) := hd
    clear hd
    have hBx := hba.trans (hB.mono hba.size)
    obtain ⟨al, a0, a1, a2, a3, a4, _⟩ := ka.later hB
    obtain ⟨bl, b0, b1, b2, b3, b4, _⟩ := kb.later hB
    by_cases hlt : k < 3
    · have hki : (k : Int) < 3 := by omega
      obtain ⟨q0, q1, q2⟩ := (HX.out k hlt).later hBx hgx
      obtain ⟨r0, r1, r2⟩ := (HX'.out k hlt).later hBx hgx'
      generalize hI : L.getD k noSp = I at q0 q1 q2
      have HI : Hid (L.getD k noSp = I) := hI
      clear hI
      generalize hJ : M.getD k noSp = J at r0 r1 r2
      have HJ : Hid (M.getD k noSp = J) := hJ
      clear hJ
      obtain ⟨i0, i1, i2⟩ := I
      obtain ⟨j0, j1, j2⟩ := J
      simp only at q0 q1 q2 r0 r1 r2
      have hgw : g < wr.heap.size := Nat.lt_of_lt_of_le hgx hBx.size
      have hgw' : g' < wr.heap.size := Nat.lt_of_lt_of_le hgx' hBx.size
      go_wp2_with fail
      go_region_held3 (fun z => z.cell? ⟨x.heap.size, 1, none⟩ = some (.slice (some ⟨g, o, none⟩) 3 cap) ∧ z.cell? ⟨x.heap.size + 1, 1, none⟩ = some (.slice (some ⟨g', o', none⟩) 3 cap') ∧ z.cell? ⟨g, o + k * 3, none⟩ = some (.bool i0) ∧ z.cell? ⟨g, o + k * 3 + 1, none⟩ = some (.int .i64 i1) ∧ z.cell? ⟨g, o + k * 3 + 2, none⟩ = some (.int .i64 i2) ∧ z.cell? ⟨g', o' + k * 3, none⟩ = some (.bool j0) ∧ z.cell? ⟨g', o' + k * 3 + 1, none⟩ = some (.int .i64 j1) ∧ z.cell? ⟨g', o' + k * 3 + 2, none⟩ = some (.int .i64 j2)) (first | (with_reducible assumption) | exact ⟨a1, b1, q0, q1, q2, r0, r1, r2⟩ | fail) ((go_at_call 51; refine (inS_spec i0 i1 i2 j0 j1 j2 _).mono ?_; rintro e w5 ⟨rfl, hb5⟩; have hS5 := keep8s (w := wr.drew) (o := o) (o' := o') (k := k) ⟨a1, b1, q0, q1, q2, r0, r1, r2⟩ hb5 al bl hgw hgw'))
      have hB5 : Below w2.heap.size w2 w5 := (hB.trans ((Below.drew (Below.refl _ _)).mono hB.size)).trans (hb5.mono hB.size)
      clear hS5 hb5
      cases hs : inS (i0, i1, i2) (j0, j1, j2)
      · go_wp2_with fail
        go_ret
        refine ⟨ret_bool ?_, hba.trans (hB5.mono hba.size)⟩
        unfold stIn
        rw [pairs_no (fun p => inS p.1 p.2) hlt (by rw [HI.out, HJ.out]; exact hs), hoa, hob]
        rfl
      · go_wp2_with fail
        go_roundw
        case rel =>
          refine ⟨k + 1, by omega, by go_num, hB5, fun j hj => ?_⟩
          by_cases hjk : j = k
          · subst hjk; rw [HI.out, HJ.out]; exact hs
          · exact HD.out j (by omega)
        case measure => simp [intOf]; omega
    · have hki : ¬ (k : Int) < 3 := by omega
      go_wp2_with fail
      refine (inS_spec _ _ _ _ _ _ _).mono ?_
      rintro e w5 ⟨rfl, hb5⟩
      go_wp2_with fail
      go_ret
      refine ⟨ret_bool ?_, hBx.trans (hb5.mono hBx.size)⟩
      unfold stIn
      rw [pairs_yes (fun p => inS p.1 p.2) (fun j hj => HD.out j (by omega)), hoa, hob]
      rfl
end Go.Proofs.Ytdomalclpjijaaa

/-
  Plain mathematics: join and meet of ok spans fit together.
-/
namespace Go.Proofs.Ytdomalclpjijaaa
open Go.RowKit
set_option linter.unusedVariables false
set_option linter.unusedSimpArgs false

theorem ok_cases {a : Bool} {l u : Int} (h : okF a l u = true) : (a, l, u) = noSp ∨ (a = true ∧ -16 ≤ l ∧ l ≤ u ∧ u ≤ 15) := by
  cases a
  · simp [okF] at h; left; obtain ⟨rfl, rfl⟩ := h; rfl
  · simp [okF] at h; right; refine ⟨rfl, ?_⟩; omega
theorem okw {l u : Int} (h1 : -16 ≤ l) (h2 : l ≤ u) (h3 : u ≤ 15) : okF true l u = true := by simp [okF]; omega
theorem okn : okF false 0 0 = true := rfl
theorem jn_t {al ah bl bh : Int} (h : okF true al ah = true) (k : okF true bl bh = true) : joinF true al ah true bl bh = (true, min al bl, max ah bh) := by simp [joinF, h, k]
theorem jn_n {b : Bool} {bl bh : Int} (k : okF b bl bh = true) : joinF false 0 0 b bl bh = (b, bl, bh) := by simp [joinF, k, okn]
theorem jn_r {al ah : Int} (h : okF true al ah = true) : joinF true al ah false 0 0 = (true, al, ah) := by simp [joinF, h, okn]
theorem mt_t {al ah bl bh : Int} (h : okF true al ah = true) (k : okF true bl bh = true) : meetF true al ah true bl bh = mkF (max al bl) (min ah bh) := by simp [meetF, bothF, h, k]
theorem mt_n {b : Bool} {bl bh : Int} : meetF false 0 0 b bl bh = noSp := by simp [meetF, bothF]
theorem mt_r {a : Bool} {al ah : Int} : meetF a al ah false 0 0 = noSp := by simp [meetF, bothF]
theorem mkS_no {l u : Int} (h : u < l) : mkF l u = noSp := by simp [mkF, h]
theorem mkS_yes {l u : Int} (h : l ≤ u) : mkF l u = (true, l, u) := by simp [mkF]; omega

def joinS (s t : Sp) : Sp := joinF s.1 s.2.1 s.2.2 t.1 t.2.1 t.2.2
def meetS (s t : Sp) : Sp := meetF s.1 s.2.1 s.2.2 t.1 t.2.1 t.2.2
def okS (s : Sp) : Prop := s = noSp ∨ ∃ l u : Int, s = (true, l, u) ∧ -16 ≤ l ∧ l ≤ u ∧ u ≤ 15

theorem okS_of {a : Bool} {l u : Int} (h : okF a l u = true) : okS (a, l, u) := by
  rcases ok_cases h with k | ⟨rfl, k⟩
  · exact .inl k
  · exact .inr ⟨l, u, rfl, by assumption⟩

theorem joinS_n {t : Sp} (h : okS t) : joinS noSp t = t := by
  rcases h with rfl | ⟨l, u, rfl, h1, h2, h3⟩
  · rfl
  · exact jn_n (okw h1 h2 h3)
theorem joinS_r {t : Sp} (h : okS t) : joinS t noSp = t := by
  rcases h with rfl | ⟨l, u, rfl, h1, h2, h3⟩
  · rfl
  · exact jn_r (okw h1 h2 h3)
theorem joinS_t {l u m v : Int} (h : -16 ≤ l ∧ l ≤ u ∧ u ≤ 15) (k : -16 ≤ m ∧ m ≤ v ∧ v ≤ 15) : joinS (true, l, u) (true, m, v) = (true, min l m, max u v) := jn_t (okw h.1 h.2.1 h.2.2) (okw k.1 k.2.1 k.2.2)
theorem meetS_n (t : Sp) : meetS noSp t = noSp := mt_n
theorem meetS_r (t : Sp) : meetS t noSp = noSp := mt_r
theorem meetS_t {l u m v : Int} (h : -16 ≤ l ∧ l ≤ u ∧ u ≤ 15) (k : -16 ≤ m ∧ m ≤ v ∧ v ≤ 15) : meetS (true, l, u) (true, m, v) = mkF (max l m) (min u v) := mt_t (okw h.1 h.2.1 h.2.2) (okw k.1 k.2.1 k.2.2)

theorem absorb1 {s t : Sp} (hs : okS s) (ht : okS t) : meetS s (joinS s t) = s := by
  rcases hs with rfl | ⟨l, u, rfl, h⟩
  · rw [meetS_n]
  · rcases ht with rfl | ⟨m, v, rfl, k⟩
    · rw [joinS_r (.inr ⟨l, u, rfl, h⟩), meetS_t h h, mkS_yes (by omega)]; simp
    · rw [joinS_t h k, meetS_t h (by omega), mkS_yes (by omega)]
      simp only [Prod.mk.injEq, true_and]; omega
theorem absorb2 {s t : Sp} (hs : okS s) (ht : okS t) : joinS s (meetS s t) = s := by
  rcases hs with rfl | ⟨l, u, rfl, h⟩
  · rw [meetS_n]; rfl
  · rcases ht with rfl | ⟨m, v, rfl, k⟩
    · rw [meetS_r, joinS_r (.inr ⟨l, u, rfl, h⟩)]
    · rw [meetS_t h k]
      by_cases e : max l m ≤ min u v
      · rw [mkS_yes e, joinS_t h (by omega)]; simp only [Prod.mk.injEq, true_and]; omega
      · rw [mkS_no (by omega), joinS_r (.inr ⟨l, u, rfl, h⟩)]
theorem okS_join {s t : Sp} (hs : okS s) (ht : okS t) : okS (joinS s t) := by
  rcases hs with rfl | ⟨l, u, rfl, h⟩
  · rw [joinS_n ht]; exact ht
  · rcases ht with rfl | ⟨m, v, rfl, k⟩
    · rw [joinS_r (.inr ⟨l, u, rfl, h⟩)]; exact .inr ⟨l, u, rfl, h⟩
    · rw [joinS_t h k]; exact .inr ⟨_, _, rfl, by omega⟩
theorem okS_mk {l u : Int} (h : -16 ≤ l) (k : u ≤ 15) : okS (mkF l u) := by
  by_cases e : l ≤ u
  · rw [mkS_yes e]; exact .inr ⟨_, _, rfl, by omega⟩
  · rw [mkS_no (by omega)]; exact .inl rfl
theorem joinS_assoc {s t r : Sp} (hs : okS s) (ht : okS t) (hr : okS r) : joinS (joinS s t) r = joinS s (joinS t r) := by
  rcases hs with rfl | ⟨l, u, rfl, h⟩
  · rw [joinS_n ht, joinS_n (okS_join ht hr)]
  · rcases ht with rfl | ⟨m, v, rfl, k⟩
    · rw [joinS_r (.inr ⟨l, u, rfl, h⟩), joinS_n hr]
    · rcases hr with rfl | ⟨n, x, rfl, j⟩
      · rw [joinS_r (okS_join (.inr ⟨l, u, rfl, h⟩) (.inr ⟨m, v, rfl, k⟩)), joinS_r (.inr ⟨m, v, rfl, k⟩)]
      · rw [joinS_t h k, joinS_t k j, joinS_t (by omega) j, joinS_t h (by omega)]
        simp only [Prod.mk.injEq, true_and]; omega
theorem meetS_assoc {s t r : Sp} (hs : okS s) (ht : okS t) (hr : okS r) : meetS (meetS s t) r = meetS s (meetS t r) := by
  rcases hs with rfl | ⟨l, u, rfl, h⟩
  · rw [meetS_n, meetS_n, meetS_n]
  · rcases ht with rfl | ⟨m, v, rfl, k⟩
    · rw [meetS_r, meetS_n, meetS_r]
    · rcases hr with rfl | ⟨n, x, rfl, j⟩
      · rw [meetS_r, meetS_r, meetS_r]
      · rw [meetS_t h k, meetS_t k j]
        by_cases e : max l m ≤ min u v
        · rw [mkS_yes e, meetS_t (by omega) j]
          by_cases f : max m n ≤ min v x
          · rw [mkS_yes f, meetS_t h (by omega)]
            by_cases g : max (max l m) n ≤ min (min u v) x
            · rw [mkS_yes g, mkS_yes (by omega)]; simp only [Prod.mk.injEq, true_and]; omega
            · rw [mkS_no (by omega), mkS_no (by omega)]
          · rw [mkS_no (show min v x < max m n by omega), meetS_r, mkS_no (by omega)]
        · rw [mkS_no (show min u v < max l m by omega), meetS_n]
          by_cases f : max m n ≤ min v x
          · rw [mkS_yes f, meetS_t h (by omega), mkS_no (by omega)]
          · rw [mkS_no (show min v x < max m n by omega), meetS_r]

theorem joinS_at {a b p : Bool} {al ah bl bh pl ph : Int} (h : joinS (a, al, ah) (b, bl, bh) = (p, pl, ph)) (w : World) : Calls Try.prog 35 #[.agg #[.bool a, .int .i64 al, .int .i64 ah], .agg #[.bool b, .int .i64 bl, .int .i64 bh]] w fun e w' => e = .returned (.agg #[.bool p, .int .i64 pl, .int .i64 ph]) ∧ Below w.heap.size w w' := join_at h w
theorem joinT_at {a b p : Bool} {al ah bl bh pl ph : Int} (h : joinS (a, al, ah) (b, bl, bh) = (p, pl, ph)) (w : World) : Calls Try.prog 68 #[.agg #[.bool a, .int .i64 al, .int .i64 ah], .agg #[.bool b, .int .i64 bl, .int .i64 bh]] w fun e w' => e = .returned (.agg #[.bool p, .int .i64 pl, .int .i64 ph]) ∧ Below w.heap.size w w' :=
  (join_spec a al ah b bl bh w).mono fun e w' ⟨h1, h2⟩ => ⟨by rw [show joinF a al ah b bl bh = (p, pl, ph) from h] at h1; exact h1, h2⟩
end Go.Proofs.Ytdomalclpjijaaa
