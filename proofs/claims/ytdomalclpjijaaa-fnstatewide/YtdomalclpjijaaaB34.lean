import Derived.Test.YtdomalclpjijaaaB33
import Derived.Test.YtdomalclpjijaaaB31
/-
  The program's StateWide: span by span; the contracts of both.
-/
namespace Go.Proofs.Ytdomalclpjijaaa
open Go.RowKit Go.Shelf
set_option linter.unusedVariables false
set_option linter.unusedSimpArgs false
attribute [local go_sem] Oper.semAt_some

set_option maxHeartbeats 8000000 in
theorem sbs_both_true (x : World) (z z' : Bool) (B E C D : Nat) (v : Value) (L : List Sp) (c : Bool) (l u : Int) (v' : Value) (M : List Sp) (d : Bool) (l' u' : Int) (hoa : stOk true L (c, l, u) = true) (hob : stOk true M (d, l', u') = true) (h : SpsAt z x B E v L) (h' : SpsAt z' x C D v' M) :
    Calls Try.prog 34 #[.agg #[.bool true, v, .bool c, .int .i64 l, .int .i64 u], .agg #[.bool true, v', .bool d, .int .i64 l', .int .i64 u'], .func (.func 40) #[] #[]] x fun e y => StAt (stBoth true true L (c, l, u) true M (d, l', u')) x e y := by
  obtain ⟨p, cap, hv⟩ := h.shape
  obtain ⟨p', cap', hv'⟩ := h'.shape
  generalize hn : L.length = n at hv
  generalize hm : M.length = m at hv'
  subst hv hv'
  have HN : Hid (L.length = n) := hn
  have HM : Hid (M.length = m) := hm
  clear hn hm
  have hba : Below x.heap.size x ((((x.alloc (.cells #[.bool true, .slice p n cap, .bool c, .int .i64 l, .int .i64 u] 31)).alloc (.cells #[.bool true, .slice p' m cap', .bool d, .int .i64 l', .int .i64 u'] 31)).alloc (.cells #[.func (.func 40) #[] #[]] 52)).alloc (.cells #[.bool false, .slice none 0 0, .bool false, .int .i64 0, .int .i64 0] 31)) := by go_grown
  have ka := (((Bx5.new x (.bool true) (.slice p n cap) (.bool c) (.int .i64 l) (.int .i64 u) 31).alloc (.cells #[.bool true, .slice p' m cap', .bool d, .int .i64 l', .int .i64 u'] 31)).alloc (.cells #[.func (.func 40) #[] #[]] 52)).alloc (.cells #[.bool false, .slice none 0 0, .bool false, .int .i64 0, .int .i64 0] 31)
  have kb := ((Bx5.new (x.alloc (.cells #[.bool true, .slice p n cap, .bool c, .int .i64 l, .int .i64 u] 31)) (.bool true) (.slice p' m cap') (.bool d) (.int .i64 l') (.int .i64 u') 31).alloc (.cells #[.func (.func 40) #[] #[]] 52)).alloc (.cells #[.bool false, .slice none 0 0, .bool false, .int .i64 0, .int .i64 0] 31)
  have kf := (Boxed.new ((x.alloc (.cells #[.bool true, .slice p n cap, .bool c, .int .i64 l, .int .i64 u] 31)).alloc (.cells #[.bool true, .slice p' m cap', .bool d, .int .i64 l', .int .i64 u'] 31)) 52 (.func (.func 40) #[] #[])).alloc (.cells #[.bool false, .slice none 0 0, .bool false, .int .i64 0, .int .i64 0] 31)
  have kr := Bx5.new (((x.alloc (.cells #[.bool true, .slice p n cap, .bool c, .int .i64 l, .int .i64 u] 31)).alloc (.cells #[.bool true, .slice p' m cap', .bool d, .int .i64 l', .int .i64 u'] 31)).alloc (.cells #[.func (.func 40) #[] #[]] 52)) (.bool false) (.slice none 0 0) (.bool false) (.int .i64 0) (.int .i64 0) 31
  simp only [World.size_alloc] at kb kf kr
  have h3 := h.later hba
  have h3' := h'.later hba
  refine (callsIn_wide (n := 8)).1 ?_
  refine callsIn_of_wp_marks Try.func34 rfl trivial ?_ rfl
  simp only [Try.ntmps34, List.size_toArray, List.length_cons, List.length_nil, Nat.reduceAdd, Nat.reduceSub, Array.replicate_succ, Array.replicate_zero, List.push_toArray, List.append_toArray, List.nil_append, List.cons_append]
  gi_wp2_with fail
  refine ⟨trivial, ?_⟩
  refine (callsIn_wide.2 (stOk_impl _ z B E _ _ L _ _ _ h3)).mono ?_
  rintro e w1 ⟨rfl, hb⟩
  rw [hoa]
  replace hba := hba.trans (hb.mono hba.size)
  replace ka := ka.later hb
  replace kb := kb.later hb
  replace kr := kr.later hb
  replace h3 := h3.later hb
  replace h3' := h3'.later hb
  replace kf := boxed_later kf hb
  clear hb
  obtain ⟨_, a0, a1, a2, a3, a4, af⟩ := id ka
  obtain ⟨_, b0, b1, b2, b3, b4, bf⟩ := id kb
  obtain ⟨_, r0, r1, r2, r3, r4, rf⟩ := id kr
  have f0 := kf.cell
  have ff := kf.frozen
  gi_wp2_with fail
  clear a0 a1 a2 a3 a4 af b0 b1 b2 b3 b4 bf r0 r1 r2 r3 r4 rf f0 ff
  refine ⟨trivial, ?_⟩
  refine (callsIn_wide.2 (stOk_impl _ z' C D _ _ M _ _ _ h3')).mono ?_
  rintro e w2 ⟨rfl, hb⟩
  rw [hob]
  replace hba := hba.trans (hb.mono hba.size)
  replace ka := ka.later hb
  replace kb := kb.later hb
  replace kr := kr.later hb
  replace h3 := h3.later hb
  replace h3' := h3'.later hb
  replace kf := boxed_later kf hb
  clear hb
  obtain ⟨_, a0, a1, a2, a3, a4, af⟩ := id ka
  obtain ⟨_, b0, b1, b2, b3, b4, bf⟩ := id kb
  obtain ⟨_, r0, r1, r2, r3, r4, rf⟩ := id kr
  have f0 := kf.cell
  have ff := kf.frozen
  gi_wp2_with fail
  refine ⟨trivial, ?_⟩
  refine (callsIn_wide.2 (pairs_any _ _ _ _ _ _ _ _ _ _ _ rfl rfl)).mono ?_
  rintro e w3 ⟨rfl, rfl⟩
  gi_wp2_with fail
  have hn3 : n = 3 := HN.out.symm.trans (stOk_len' hoa)
  have hm3 : m = 3 := HM.out.symm.trans (stOk_len' hob)
  subst hn3 hm3
  obtain ⟨g, o, hgo, hgx, hl3⟩ : ∃ g o, p = some ⟨g, o, none⟩ ∧ g < w2.heap.size ∧ ∀ j, j < 3 → Spn w2 g (o + j * 3) (L.getD j noSp) := by
    obtain ⟨p1, cap1, hv1, _, hq⟩ := h3
    injection hv1 with e1
    rcases hq with h0 | ⟨g, o, hp, _, hgE, hEx, _, hj⟩
    · rw [HN.out] at h0; omega
    · rw [HN.out] at hj
      exact ⟨g, o, e1.trans hp, by omega, hj⟩
  obtain ⟨g', o', hgo', hgx', hl3'⟩ : ∃ g o, p' = some ⟨g, o, none⟩ ∧ g < w2.heap.size ∧ ∀ j, j < 3 → Spn w2 g (o + j * 3) (M.getD j noSp) := by
    obtain ⟨p1, cap1, hv1, _, hq⟩ := h3'
    injection hv1 with e1
    rcases hq with h0 | ⟨g, o, hp, _, hgE, hEx, _, hj⟩
    · rw [HM.out] at h0; omega
    · rw [HM.out] at hj
      exact ⟨g, o, e1.trans hp, by omega, hj⟩
  subst hgo hgo'
  have nb := Bx5.new ((w2.alloc (.cells #[.slice none 0 0] 28)).alloc (.cells #[.bool true, .slice (some ⟨g, o, none⟩) 3 cap, .bool c, .int .i64 l, .int .i64 u] 31)) (.bool true) (.slice (some ⟨g', o', none⟩) 3 cap') (.bool d) (.int .i64 l') (.int .i64 u') 31
  have na := (Bx5.new (w2.alloc (.cells #[.slice none 0 0] 28)) (.bool true) (.slice (some ⟨g, o, none⟩) 3 cap) (.bool c) (.int .i64 l) (.int .i64 u) 31).alloc (.cells #[.bool true, .slice (some ⟨g', o', none⟩) 3 cap', .bool d, .int .i64 l', .int .i64 u'] 31)
  have nm := ((Boxed.new w2 28 (.slice none 0 0)).alloc (.cells #[.bool true, .slice (some ⟨g, o, none⟩) 3 cap, .bool c, .int .i64 l, .int .i64 u] 31)).alloc (.cells #[.bool true, .slice (some ⟨g', o', none⟩) 3 cap', .bool d, .int .i64 l', .int .i64 u'] 31)
  have hw0 : Below w2.heap.size w2 (((w2.alloc (.cells #[.slice none 0 0] 28)).alloc (.cells #[.bool true, .slice (some ⟨g, o, none⟩) 3 cap, .bool c, .int .i64 l, .int .i64 u] 31)).alloc (.cells #[.bool true, .slice (some ⟨g', o', none⟩) 3 cap', .bool d, .int .i64 l', .int .i64 u'] 31)) := (((Below.refl _ w2).alloc (Nat.le_refl _) _).alloc (by simp) _).alloc (by simp; omega) _
  have hsz : (((w2.alloc (.cells #[.slice none 0 0] 28)).alloc (.cells #[.bool true, .slice (some ⟨g, o, none⟩) 3 cap, .bool c, .int .i64 l, .int .i64 u] 31)).alloc (.cells #[.bool true, .slice (some ⟨g', o', none⟩) 3 cap', .bool d, .int .i64 l', .int .i64 u'] 31)).heap.size = w2.heap.size + 3 := by simp
  simp only [World.size_alloc] at nb na
  obtain ⟨W0, hW0⟩ : ∃ W0, (((w2.alloc (.cells #[.slice none 0 0] 28)).alloc (.cells #[.bool true, .slice (some ⟨g, o, none⟩) 3 cap, .bool c, .int .i64 l, .int .i64 u] 31)).alloc (.cells #[.bool true, .slice (some ⟨g', o', none⟩) 3 cap', .bool d, .int .i64 l', .int .i64 u'] 31)) = W0 := ⟨_, rfl⟩
  rw [hW0] at nb na nm hw0 hsz ⊢
  clear hW0
  have hB0 : Below x.heap.size x W0 := hba.trans (hw0.mono hba.size)
  have bF : Boxed W0 (x.heap.size + 1 + 1) 52 (.func (.func 40) #[] #[]) := boxed_later kf hw0
  have bR : Bx5 W0 (x.heap.size + 1 + 1 + 1) (.bool false) (.slice none 0 0) (.bool false) (.int .i64 0) (.int .i64 0) := kr.later hw0
  have hRl : x.heap.size + 1 + 1 + 1 < w2.heap.size := kr.lt
  have hP : PairsAt W0 W0.heap.size (w2.heap.size + 1) (w2.heap.size + 1 + 1) L M (c, l, u) (d, l', u') g o cap g' o' cap' :=
    ⟨by omega, by omega, by omega, by omega, na.c1, na.c2, na.c3, na.c4, nb.c1, nb.c2, nb.c3, nb.c4, fun j hj => (hl3 j hj).later hw0 hgx, fun j hj => (hl3' j hj).later hw0 hgx'⟩
  clear a0 a1 a2 a3 a4 b0 b1 b2 b3 b4 r0 r1 r2 r3 r4 af bf rf f0 ff ka kb kr kf h3 h3' nb na h h' hl3 hl3'
  have hx0 : x.heap.size + 1 + 1 + 1 + 1 ≤ w2.heap.size := by omega
  have hsz2 : w2.heap.size + 3 ≤ W0.heap.size := by omega
  refine wpIn_rangeFunc_ownH rfl (by omega) (gf := 66) (lb := #[.pointer (some ⟨w2.heap.size + 1, 0, none⟩), .pointer (some ⟨w2.heap.size + 1 + 1, 0, none⟩)]) rfl trivial (enters_of Try.func66 (by kernel_rfl) rfl)
    (pairs2_stops 7 (by omega) (w2.heap.size + 1) (w2.heap.size + 1 + 1) W0.heap.size L M (c, l, u) (d, l', u') g o cap g' o' cap' w2.heap.size ⟨by omega, by omega, by omega, by omega⟩ W0 (Nat.le_refl _) hP) butK_t (butK_b (Nat.le_refl _)) (Below.refl _ _) (fun _ => rfl)
    (fun pre W => (∃ v, Boxed W w2.heap.size 28 v ∧ W.ownsRow W0.heap.size 29 3 v pre.length (rowP true pre) ∧ True) ∧ But W0.heap.size w2.heap.size W0 W)
    (fun cc pre W => False)
    (OwnFrom.and (Own.from (holdsRow_own _ _ _ _ _ _ _ _) _) (ownFrom_but (Nat.le_refl _) (Nat.le_refl _)))
    (fun cc => fun s A B row hs _ _ => hs)
    ⟨⟨_, nm, World.ownsRow_nil _ _ _ _, trivial⟩, But.refl _ _ _⟩
    (fun y a' W => ∃ B1 B2, (Bxs W B1 y.1 ∧ Bxs W B2 y.2) ∧ a' = { tmps := #[.agg #[.bool true, .slice (some ⟨g, o, none⟩) 3 cap, .bool c, .int .i64 l, .int .i64 u], .agg #[.bool true, .slice (some ⟨g', o', none⟩) 3 cap', .bool d, .int .i64 l', .int .i64 u'], .func (.func 40) #[] #[], .pointer (some ⟨x.heap.size, 0, none⟩), .pointer (some ⟨x.heap.size + 1, 0, none⟩), .pointer (some ⟨x.heap.size + 1 + 1, 0, none⟩), .pointer (some ⟨x.heap.size + 1 + 1 + 1, 0, none⟩), .pointer (some ⟨w2.heap.size, 0, none⟩), .pointer (some ⟨B1, 0, none⟩), .pointer (some ⟨B2, 0, none⟩), .agg #[.bool true, .slice (some ⟨g, o, none⟩) 3 cap, .bool c, .int .i64 l, .int .i64 u], .bool true, .bool false, .bool false, .agg #[.bool true, .slice (some ⟨g', o', none⟩) 3 cap', .bool d, .int .i64 l', .int .i64 u'], .bool true, .bool false, .bool false, undef, .pointer (some ⟨x.heap.size, 0, none⟩), .bool true, .bool false, undef, undef, .pointer (some ⟨x.heap.size + 1, 0, none⟩), .bool true, .bool false, undef, undef, .agg #[.bool true, .slice (some ⟨g, o, none⟩) 3 cap, .bool c, .int .i64 l, .int .i64 u], .agg #[.bool true, .slice (some ⟨g', o', none⟩) 3 cap', .bool d, .int .i64 l', .int .i64 u'], .func (.func 66) #[] #[.pointer (some ⟨w2.heap.size + 1, 0, none⟩), .pointer (some ⟨w2.heap.size + 1 + 1, 0, none⟩)], .agg #[.bool y.1.1, .int .i64 y.1.2.1, .int .i64 y.1.2.2], .agg #[.bool y.2.1, .int .i64 y.2.2.1, .int .i64 y.2.2.2], undef, undef, undef, undef, undef, undef, undef, undef, undef, undef, undef, undef, undef], defers := [] })
    (fun y a' _ X Y row hs hg hr => by obtain ⟨B1, B2, ⟨h1, h2⟩, h3⟩ := hs; exact ⟨B1, B2, ⟨bxs_own B1 (fun (_ : Unit) => y.1) () X Y row h1 hg (fun r e => (hr r e).2), bxs_own B2 (fun (_ : Unit) => y.2) () X Y row h2 hg (fun r e => (hr r e).2)⟩, h3⟩)
    ?assign ?body ?done ?stop
  all_goals clear hsz
  case assign =>
    rintro q pre y W K ⟨⟨v, hbx, hrow, _⟩, hBt⟩ hK
    unfold encP
    have hsW := hBt.size
    have hW2 : Below W.heap.size W ((W.alloc (.cells #[.bool y.1.1, .int .i64 y.1.2.1, .int .i64 y.1.2.2] 29)).alloc (.cells #[.bool y.2.1, .int .i64 y.2.2.1, .int .i64 y.2.2.2] 29)) := ((Below.refl _ W).alloc (Nat.le_refl _) _).alloc (by simp) _
    gi_wp2
    exact hK _ _ (((KeepsOthers.alloc _ _).from _).trans ((KeepsOthers.alloc _ _).from _)) (But.below (hW2.mono hsW)) ⟨⟨v, (hbx.alloc _).alloc _, owns_later hrow hW2, trivial⟩, hBt.trans (But.below (hW2.mono hsW))⟩ ⟨W.heap.size, W.heap.size + 1, ⟨(Bxs.new W y.1).alloc _, by have := Bxs.new (W.alloc (.cells #[.bool y.1.1, .int .i64 y.1.2.1, .int .i64 y.1.2.2] 29)) y.2; rwa [World.size_alloc] at this⟩, rfl⟩
  case body =>
    rintro q pre y a' W hq ⟨r, hr⟩ ⟨⟨v, hbx, hrow, _⟩, hBt⟩ ⟨B1, B2, ⟨k1, k2⟩, rfl⟩ hlt
    obtain ⟨⟨s0, s1, s2⟩, ⟨t0, t1, t2⟩⟩ := y
    obtain ⟨n0, n1, n2, hn0⟩ : ∃ n0 n1 n2, spF true (s0, s1, s2) (t0, t1, t2) = (n0, n1, n2) := ⟨_, _, _, rfl⟩
    have HK : Hid (spF true (s0, s1, s2) (t0, t1, t2) = (n0, n1, n2)) := hn0
    clear hn0
    have hbf := hBt.boxed bF (by omega) (by omega)
    have hsW := hBt.size
    have hbd : Below W.heap.size W W.drew := (Below.refl _ _).drew
    gi_wp2_with fail
    refine wpIn_round_inv (by kernel_rfl) (by kernel_rfl) ?hg (RI (fun s34 s35 s36 s37 s38 s39 s40 => ⟨#[.agg #[.bool true, .slice (some ⟨g, o, none⟩) 3 cap, .bool c, .int .i64 l, .int .i64 u], .agg #[.bool true, .slice (some ⟨g', o', none⟩) 3 cap', .bool d, .int .i64 l', .int .i64 u'], .func (.func 40) #[] #[], .pointer (some ⟨x.heap.size, 0, none⟩), .pointer (some ⟨x.heap.size + 1, 0, none⟩), .pointer (some ⟨x.heap.size + 1 + 1, 0, none⟩), .pointer (some ⟨x.heap.size + 1 + 1 + 1, 0, none⟩), .pointer (some ⟨w2.heap.size, 0, none⟩), .pointer (some ⟨B1, 0, none⟩), .pointer (some ⟨B2, 0, none⟩), .agg #[.bool true, .slice (some ⟨g, o, none⟩) 3 cap, .bool c, .int .i64 l, .int .i64 u], .bool true, .bool false, .bool false, .agg #[.bool true, .slice (some ⟨g', o', none⟩) 3 cap', .bool d, .int .i64 l', .int .i64 u'], .bool true, .bool false, .bool false, undef, .pointer (some ⟨x.heap.size, 0, none⟩), .bool true, .bool false, undef, undef, .pointer (some ⟨x.heap.size + 1, 0, none⟩), .bool true, .bool false, undef, undef, .agg #[.bool true, .slice (some ⟨g, o, none⟩) 3 cap, .bool c, .int .i64 l, .int .i64 u], .agg #[.bool true, .slice (some ⟨g', o', none⟩) 3 cap', .bool d, .int .i64 l', .int .i64 u'], .func (.func 66) #[] #[.pointer (some ⟨w2.heap.size + 1, 0, none⟩), .pointer (some ⟨w2.heap.size + 1 + 1, 0, none⟩)], .agg #[.bool s0, .int .i64 s1, .int .i64 s2], .agg #[.bool t0, .int .i64 t1, .int .i64 t2], s34, s35, s36, s37, s38, s39, s40, undef, undef, undef, undef, undef, undef], []⟩) W.drew v (.func (.func 40) #[] #[]) (.agg #[.bool s0, .int .i64 s1, .int .i64 s2]) (.agg #[.bool t0, .int .i64 t1, .int .i64 t2]) (.agg #[.bool n0, .int .i64 n1, .int .i64 n2]) (n0, n1, n2)
      (fun s z => ∃ p1 cap1, s = .slice p1 (pre.length + 1) cap1 ∧ Made W.drew (z.setCell ⟨w2.heap.size, 0, none⟩ (.slice p1 (pre.length + 1) cap1)) W0.heap.size w2.heap.size (pre.length + 1) (.slice p1 (pre.length + 1) cap1) (rowP true pre ++ cs3 (n0, n1, n2)) ∧ Boxed z w2.heap.size 28 v)
      (fun z => ∃ p1 cap1, Made W.drew z W0.heap.size w2.heap.size (pre.length + 1) (.slice p1 (pre.length + 1) cap1) (rowP true pre ++ cs3 (n0, n1, n2)))) ?start ?step ?fin
    case hg =>
      intro i o ho
      iterate 8
        rcases i with _ | i
        · obtain rfl := Option.some.inj ho
          exact ⟨rfl, fun c h => by cases h⟩
      cases ho
    case start =>
      exact ⟨false, false, false, false, false, false, false, false, _, _, _, _, _, _, _, rfl, rfl, Slot.no, Slot.no, Slot.no, Slot.no, Slot.no, fun _ => rfl, fun _ => ⟨Below.refl _ _, KeepsOthers.refl _⟩, (fun _ h => by cases h), (fun h => by cases h), (fun h => by cases h), (fun h => by cases h), (fun h => by cases h), (fun h => by cases h)⟩
    case step =>
      intro listed a z hI i o ho hun hpre K hK
      obtain ⟨b0, b1, b2, b3, b4, b5, b6, b7, s34, s35, s36, s37, s38, s39, s40, rfl, rfl, h0, h1, h2, h3, h4, h67, hBk, h5, hall, h45, h4a, h6, h7⟩ := hI
      rcases i with _ | i
      · obtain rfl := Option.some.inj ho
        have e : b0 = false := hun
        subst e
        obtain rfl : b6 = false := by
          cases b6
          · rfl
          · have := (hall rfl).1; simp at this
        obtain rfl : b7 = false := h67 rfl
        obtain ⟨hB, hKo⟩ := hBk rfl
        clear hBk h67 hall h6 h7 hun
        clear ho hpre
        have cb := (boxed_above (w0 := W.drew) (boxed_above hbx hbd) hB).cell
        go_simp
        exact hK _ _ ⟨true, b1, b2, b3, b4, b5, false, false, _, s35, s36, s37, s38, s39, s40, rfl, rfl, Slot.mk', h1, h2, h3, h4, (fun _ => rfl), (fun _ => ⟨hB, hKo⟩), h5, (fun h => by cases h), h45, h4a, (fun h => by cases h), (fun h => by cases h)⟩
      rcases i with _ | i
      · obtain rfl := Option.some.inj ho
        have e : b1 = false := hun
        subst e
        obtain rfl : b6 = false := by
          cases b6
          · rfl
          · have := (h4a (h45 (hall rfl).2)).1; simp at this
        obtain rfl : b7 = false := h67 rfl
        obtain ⟨hB, hKo⟩ := hBk rfl
        clear hBk h67 hall h6 h7 hun
        clear ho hpre
        have cb := (boxed_above (w0 := W.drew) (boxed_above hbf hbd) hB).cell
        go_simp
        exact hK _ _ ⟨b0, true, b2, b3, b4, b5, false, false, s34, _, s36, s37, s38, s39, s40, rfl, rfl, h0, Slot.mk', h2, h3, h4, (fun _ => rfl), (fun _ => ⟨hB, hKo⟩), h5, (fun h => by cases h), h45, (fun h => ⟨rfl, (h4a h).2.1, (h4a h).2.2⟩), (fun h => by cases h), (fun h => by cases h)⟩
      rcases i with _ | i
      · obtain rfl := Option.some.inj ho
        have e : b2 = false := hun
        subst e
        obtain rfl : b6 = false := by
          cases b6
          · rfl
          · have := (h4a (h45 (hall rfl).2)).2.1; simp at this
        obtain rfl : b7 = false := h67 rfl
        obtain ⟨hB, hKo⟩ := hBk rfl
        clear hBk h67 hall h6 h7 hun
        clear ho hpre
        obtain ⟨c0, c1, c2⟩ := k1.cells
        replace c0 := (hB.cell (p := ⟨B1, 0, none⟩) (by simpa using k1.lt)).trans ((hbd.cell (p := ⟨B1, 0, none⟩) k1.lt).trans c0)
        replace c1 := (hB.cell (p := ⟨B1, 1, none⟩) (by simpa using k1.lt)).trans ((hbd.cell (p := ⟨B1, 1, none⟩) k1.lt).trans c1)
        replace c2 := (hB.cell (p := ⟨B1, 2, none⟩) (by simpa using k1.lt)).trans ((hbd.cell (p := ⟨B1, 2, none⟩) k1.lt).trans c2)
        simp only at c0 c1 c2
        go_simp
        exact hK _ _ ⟨b0, b1, true, b3, b4, b5, false, false, s34, s35, _, s37, s38, s39, s40, rfl, rfl, h0, h1, Slot.mk', h3, h4, (fun _ => rfl), (fun _ => ⟨hB, hKo⟩), h5, (fun h => by cases h), h45, (fun h => ⟨(h4a h).1, rfl, (h4a h).2.2⟩), (fun h => by cases h), (fun h => by cases h)⟩
      rcases i with _ | i
      · obtain rfl := Option.some.inj ho
        have e : b3 = false := hun
        subst e
        obtain rfl : b6 = false := by
          cases b6
          · rfl
          · have := (h4a (h45 (hall rfl).2)).2.2; simp at this
        obtain rfl : b7 = false := h67 rfl
        obtain ⟨hB, hKo⟩ := hBk rfl
        clear hBk h67 hall h6 h7 hun
        clear ho hpre
        obtain ⟨c0, c1, c2⟩ := k2.cells
        replace c0 := (hB.cell (p := ⟨B2, 0, none⟩) (by simpa using k2.lt)).trans ((hbd.cell (p := ⟨B2, 0, none⟩) k2.lt).trans c0)
        replace c1 := (hB.cell (p := ⟨B2, 1, none⟩) (by simpa using k2.lt)).trans ((hbd.cell (p := ⟨B2, 1, none⟩) k2.lt).trans c1)
        replace c2 := (hB.cell (p := ⟨B2, 2, none⟩) (by simpa using k2.lt)).trans ((hbd.cell (p := ⟨B2, 2, none⟩) k2.lt).trans c2)
        simp only at c0 c1 c2
        go_simp
        exact hK _ _ ⟨b0, b1, b2, true, b4, b5, false, false, s34, s35, s36, _, s38, s39, s40, rfl, rfl, h0, h1, h2, Slot.mk', h4, (fun _ => rfl), (fun _ => ⟨hB, hKo⟩), h5, (fun h => by cases h), h45, (fun h => ⟨(h4a h).1, (h4a h).2.1, rfl⟩), (fun h => by cases h), (fun h => by cases h)⟩
      rcases i with _ | i
      · obtain rfl := Option.some.inj ho
        have e : b4 = false := hun
        subst e
        obtain rfl : b6 = false := by
          cases b6
          · rfl
          · have := h45 (hall rfl).2; simp at this
        obtain rfl : b7 = false := h67 rfl
        obtain ⟨hB, hKo⟩ := hBk rfl
        clear hBk h67 hall h6 h7 hun
        have q1 : b1 = true := hpre ⟨1, .data⟩ (by simp) rfl
        have e1 := h1.at_ q1
        subst e1
        have q2 : b2 = true := hpre ⟨2, .data⟩ (by simp) rfl
        have e2 := h2.at_ q2
        subst e2
        have q3 : b3 = true := hpre ⟨3, .data⟩ (by simp) rfl
        have e3 := h3.at_ q3
        subst e3
        clear ho hpre
        go_simp
        refine (wide_at HK.out _).mono ?_
        rintro e z1 ⟨rfl, hb1⟩
        exact hK _ _ ⟨b0, b1, b2, b3, true, b5, false, false, s34, _, _, _, _, s39, s40, rfl, rfl, h0, h1, h2, h3, Slot.mk', (fun _ => rfl), (fun _ => ⟨hB.trans (hb1.mono hB.size), hKo.trans (keepsOthers_of_below hb1)⟩), (fun h g => by obtain ⟨q5, e5, l5, sp5⟩ := h5 h g; exact ⟨q5, e5, Nat.lt_of_lt_of_le l5 hb1.size, sp5.later hb1 l5⟩), (fun h => by cases h), (fun _ => rfl), (fun _ => ⟨q1, q2, q3⟩), (fun h => by cases h), (fun h => by cases h)⟩
      rcases i with _ | i
      · obtain rfl := Option.some.inj ho
        have e : b5 = false := hun
        subst e
        obtain rfl : b6 = false := by
          cases b6
          · rfl
          · have := (hall rfl).2; simp at this
        obtain rfl : b7 = false := h67 rfl
        obtain ⟨hB, hKo⟩ := hBk rfl
        clear hBk h67 hall h6 h7 hun
        have q4 : b4 = true := hpre ⟨4, .data⟩ (by simp) rfl
        have e4 := h4.at_ q4
        subst e4
        clear ho hpre
        go_simp
        exact hK _ _ ⟨b0, b1, b2, b3, b4, true, false, false, s34, s35, s36, s37, _, _, s40, rfl, rfl, h0, h1, h2, h3, h4, (fun _ => rfl), (fun _ => ⟨hB.alloc hB.size _, hKo.trans (KeepsOthers.alloc _ _)⟩), (fun _ _ => ⟨_, rfl, by simp, spn_new _ _ _ _ _⟩), (fun h => by cases h), (fun _ => q4), h4a, (fun h => by cases h), (fun h => by cases h)⟩
      rcases i with _ | i
      · obtain rfl := Option.some.inj ho
        have e : b6 = false := hun
        subst e
        obtain rfl : b7 = false := h67 rfl
        obtain ⟨hB, hKo⟩ := hBk rfl
        have q0 : b0 = true := hpre ⟨0, .data⟩ (by simp) rfl
        have q5 : b5 = true := hpre ⟨5, .data⟩ (by simp) rfl
        obtain ⟨q, e5, l5, sp5⟩ := h5 rfl q5
        subst e5
        have e0 := h0.at_ q0
        subst e0
        obtain ⟨p1, cap1, z1, hr1, hM, hbz⟩ := made_app (n0, n1, n2) (ty := 28) hB hKo (boxed_above hbx hbd) (owns_later hrow hbd) (show W0.heap.size ≤ W.drew.heap.size from hsW) (by omega) (by omega) sp5
        refine wp_app _ _ 28 rfl rfl rfl hr1 (hK _ _ ⟨b0, b1, b2, b3, b4, b5, true, false, _, s35, s36, s37, s38, _, _, rfl, rfl, h0, h1, h2, h3, h4, (fun h => by cases h), (fun h => by cases h), (fun h => by cases h), (fun _ => ⟨q0, q5⟩), h45, h4a, (fun _ _ => ⟨p1, cap1, rfl, hM, hbz⟩), (fun h => by cases h)⟩)
      rcases i with _ | i
      · obtain rfl := Option.some.inj ho
        have e : b7 = false := hun
        subst e
        have q6 : b6 = true := hpre ⟨6, .data⟩ (by simp) rfl
        subst q6
        obtain ⟨p1, cap1, e6, hM, hbz⟩ := h6 rfl rfl
        subst e6
        have cb := hbz.cell
        have fb := hbz.frozen
        clear ho hpre hun
        go_simp
        exact hK _ _ ⟨b0, b1, b2, b3, b4, b5, true, true, s34, s35, s36, s37, s38, s39, _, rfl, rfl, h0, h1, h2, h3, h4, (fun h => by cases h), (fun h => by cases h), (fun h => by cases h), hall, h45, h4a, (fun _ h => by cases h), (fun _ => ⟨p1, cap1, hM⟩)⟩
      cases ho
    case fin =>
      intro listed a z hI hfin
      obtain ⟨b0, b1, b2, b3, b4, b5, b6, b7, s34, s35, s36, s37, s38, s39, s40, rfl, rfl, _, _, _, _, _, _, _, _, _, _, _, _, h7⟩ := hI
      obtain ⟨p1, cap1, hM⟩ := h7 (hfin 7 (by simp))
      clear hfin h7
      gi_wp2
      refine ⟨((KeepsOthers.drew W).trans hM.keep).from _, (But.below (hbd.mono hsW)).trans hM.but, ⟨_, hM.box, ?_⟩, hBt.trans ((But.below (hbd.mono hsW)).trans hM.but)⟩
      rw [rowP_snoc, HK.out]
      have e1 : (pre ++ [((s0, s1, s2), (t0, t1, t2))]).length = pre.length + 1 := by simp
      rw [e1]
      exact hM.row
  case done =>
    rintro D' ys W hD rfl ⟨⟨v, hbx, hrow, _⟩, hBt⟩ hK
    rw [upto_length] at hrow
    obtain ⟨g4, cap4, rfl⟩ := ownsRow_succ hrow
    rw [row4] at hrow
    obtain ⟨hcap, hg4, hg4l⟩ := owns_cap hrow
    obtain ⟨n0, n1, n2, hn0⟩ : ∃ n0 n1 n2, spF true (c, l, u) (d, l', u') = (n0, n1, n2) := ⟨_, _, _, rfl⟩
    have HK : Hid (spF true (c, l, u) (d, l', u') = (n0, n1, n2)) := hn0
    rw [hn0] at hrow
    clear hn0
    have HRow : Hid (W.ownsRow W0.heap.size 29 3 (.slice (some ⟨g4, 0, none⟩) (3 + 1) cap4) (3 + 1) (cs3 (spF true (L.getD 0 noSp) (M.getD 0 noSp)) ++ cs3 (spF true (L.getD 1 noSp) (M.getD 1 noSp)) ++ cs3 (spF true (L.getD 2 noSp) (M.getD 2 noSp)) ++ cs3 (n0, n1, n2))) := hrow
    have c9 : W.cell? ⟨g4, 9, none⟩ = some (.bool n0) := World.ownsRow.cellAt hrow 9 (by omega)
    have c10 : W.cell? ⟨g4, 10, none⟩ = some (.int .i64 n1) := World.ownsRow.cellAt hrow 10 (by omega)
    have c11 : W.cell? ⟨g4, 11, none⟩ = some (.int .i64 n2) := World.ownsRow.cellAt hrow 11 (by omega)
    clear hrow
    have hres := hBt.bx5 bR (by omega) (by omega)
    obtain ⟨rl, r0, r1, r2, r3, r4, rf⟩ := id hres
    have cb := hbx.cell
    have hc3 : 3 ≤ cap4 := by omega
    gi_wp2_with fail
    refine wpIn_wide.2 ?_
    go_region
    have hfill : Bx5 ((((((W.setCell ⟨x.heap.size + 1 + 1 + 1, 0, none⟩ (.bool true)).setCell ⟨x.heap.size + 1 + 1 + 1, 1, none⟩ (.slice (some ⟨g4, 0, none⟩) 3 3)).setCell ⟨x.heap.size + 1 + 1 + 1, 2, none⟩ (.bool n0)).setCell ⟨x.heap.size + 1 + 1 + 1, 3, none⟩ (.int .i64 n1)).setCell ⟨x.heap.size + 1 + 1 + 1, 4, none⟩ (.int .i64 n2)).drew) (x.heap.size + 1 + 1 + 1) (.bool true) (.slice (some ⟨g4, 0, none⟩) 3 3) (.bool n0) (.int .i64 n1) (.int .i64 n2) := (fill5 hres _ _ _ _ _).later (Below.refl _ _).drew
    have hrr : x.heap.size + 1 + 1 + 1 < W0.heap.size := by omega
    have hrowr := owns_later (owns_off (i := 4) (u := .int .i64 n2) (owns_off (i := 3) (u := .int .i64 n1) (owns_off (i := 2) (u := .bool n0) (owns_off (i := 1) (u := .slice (some ⟨g4, 0, none⟩) 3 3) (owns_off (i := 0) (u := .bool true) HRow.out hrr) hrr) hrr) hrr) hrr) (Below.refl _ _).drew
    have hKo : KeepsOthers W ((((((W.setCell ⟨x.heap.size + 1 + 1 + 1, 0, none⟩ (.bool true)).setCell ⟨x.heap.size + 1 + 1 + 1, 1, none⟩ (.slice (some ⟨g4, 0, none⟩) 3 3)).setCell ⟨x.heap.size + 1 + 1 + 1, 2, none⟩ (.bool n0)).setCell ⟨x.heap.size + 1 + 1 + 1, 3, none⟩ (.int .i64 n1)).setCell ⟨x.heap.size + 1 + 1 + 1, 4, none⟩ (.int .i64 n2)).drew) := (((((KeepsOthers.setCell _ _ _).trans (KeepsOthers.setCell _ _ _)).trans (KeepsOthers.setCell _ _ _)).trans (KeepsOthers.setCell _ _ _)).trans (KeepsOthers.setCell _ _ _)).trans (KeepsOthers.drew _)
    have hBx : Below x.heap.size x W := hB0.trans (hBt.below_of (by omega) (by omega))
    have hBel : Below x.heap.size x ((((((W.setCell ⟨x.heap.size + 1 + 1 + 1, 0, none⟩ (.bool true)).setCell ⟨x.heap.size + 1 + 1 + 1, 1, none⟩ (.slice (some ⟨g4, 0, none⟩) 3 3)).setCell ⟨x.heap.size + 1 + 1 + 1, 2, none⟩ (.bool n0)).setCell ⟨x.heap.size + 1 + 1 + 1, 3, none⟩ (.int .i64 n1)).setCell ⟨x.heap.size + 1 + 1 + 1, 4, none⟩ (.int .i64 n2)).drew) := (((((hBx.setCell (p := ⟨x.heap.size + 1 + 1 + 1, 0, none⟩) (by simp; omega) _).setCell (p := ⟨x.heap.size + 1 + 1 + 1, 1, none⟩) (by simp; omega) _).setCell (p := ⟨x.heap.size + 1 + 1 + 1, 2, none⟩) (by simp; omega) _).setCell (p := ⟨x.heap.size + 1 + 1 + 1, 3, none⟩) (by simp; omega) _).setCell (p := ⟨x.heap.size + 1 + 1 + 1, 4, none⟩) (by simp; omega) _).drew
    have HR : Hid (Bx5 ((((((W.setCell ⟨x.heap.size + 1 + 1 + 1, 0, none⟩ (.bool true)).setCell ⟨x.heap.size + 1 + 1 + 1, 1, none⟩ (.slice (some ⟨g4, 0, none⟩) 3 3)).setCell ⟨x.heap.size + 1 + 1 + 1, 2, none⟩ (.bool n0)).setCell ⟨x.heap.size + 1 + 1 + 1, 3, none⟩ (.int .i64 n1)).setCell ⟨x.heap.size + 1 + 1 + 1, 4, none⟩ (.int .i64 n2)).drew) (x.heap.size + 1 + 1 + 1) (.bool true) (.slice (some ⟨g4, 0, none⟩) 3 3) (.bool n0) (.int .i64 n1) (.int .i64 n2) ∧ World.ownsRow ((((((W.setCell ⟨x.heap.size + 1 + 1 + 1, 0, none⟩ (.bool true)).setCell ⟨x.heap.size + 1 + 1 + 1, 1, none⟩ (.slice (some ⟨g4, 0, none⟩) 3 3)).setCell ⟨x.heap.size + 1 + 1 + 1, 2, none⟩ (.bool n0)).setCell ⟨x.heap.size + 1 + 1 + 1, 3, none⟩ (.int .i64 n1)).setCell ⟨x.heap.size + 1 + 1 + 1, 4, none⟩ (.int .i64 n2)).drew) W0.heap.size 29 3 (.slice (some ⟨g4, 0, none⟩) (3 + 1) cap4) (3 + 1) (cs3 (spF true (L.getD 0 noSp) (M.getD 0 noSp)) ++ cs3 (spF true (L.getD 1 noSp) (M.getD 1 noSp)) ++ cs3 (spF true (L.getD 2 noSp) (M.getD 2 noSp)) ++ cs3 (n0, n1, n2)) ∧ KeepsOthers W ((((((W.setCell ⟨x.heap.size + 1 + 1 + 1, 0, none⟩ (.bool true)).setCell ⟨x.heap.size + 1 + 1 + 1, 1, none⟩ (.slice (some ⟨g4, 0, none⟩) 3 3)).setCell ⟨x.heap.size + 1 + 1 + 1, 2, none⟩ (.bool n0)).setCell ⟨x.heap.size + 1 + 1 + 1, 3, none⟩ (.int .i64 n1)).setCell ⟨x.heap.size + 1 + 1 + 1, 4, none⟩ (.int .i64 n2)).drew) ∧ Below x.heap.size x ((((((W.setCell ⟨x.heap.size + 1 + 1 + 1, 0, none⟩ (.bool true)).setCell ⟨x.heap.size + 1 + 1 + 1, 1, none⟩ (.slice (some ⟨g4, 0, none⟩) 3 3)).setCell ⟨x.heap.size + 1 + 1 + 1, 2, none⟩ (.bool n0)).setCell ⟨x.heap.size + 1 + 1 + 1, 3, none⟩ (.int .i64 n1)).setCell ⟨x.heap.size + 1 + 1 + 1, 4, none⟩ (.int .i64 n2)).drew)) := ⟨hfill, hrowr, hKo, hBel⟩
    clear hfill hrowr hKo hBel HRow cb c9 c10 c11 rl r0 r1 r2 r3 r4 rf hres
    generalize (((((W.setCell ⟨x.heap.size + 1 + 1 + 1, 0, none⟩ (.bool true)).setCell ⟨x.heap.size + 1 + 1 + 1, 1, none⟩ (.slice (some ⟨g4, 0, none⟩) 3 3)).setCell ⟨x.heap.size + 1 + 1 + 1, 2, none⟩ (.bool n0)).setCell ⟨x.heap.size + 1 + 1 + 1, 3, none⟩ (.int .i64 n1)).setCell ⟨x.heap.size + 1 + 1 + 1, 4, none⟩ (.int .i64 n2)).drew = Wr at HR ⊢
    gi_wp2
    obtain ⟨hfill, hrowr, hKo, hBel⟩ := HR.out
    have hK' := hKo.same D' _ hK rfl
    refine ⟨by simp, .inl ⟨_, _, rfl, run_takeDeferred hK', ?_⟩⟩
    have hkeep : ∀ {b o : Nat} {v : Value}, Wr.cell? ⟨b, o, none⟩ = some v → (Wr.putObj D' (.deferred none)).cell? ⟨b, o, none⟩ = some v := fun h => cell_kept h (grownBy_putObj' _ D' (.deferred none)) (fun r e => by cases e; exact ⟨_, hK', rfl⟩)
    have e0 := hkeep hfill.c0
    have e1 := hkeep hfill.c1
    have e2 := hkeep hfill.c2
    have e3 := hkeep hfill.c3
    have e4 := hkeep hfill.c4
    refine ⟨.agg #[.bool true, .slice (some ⟨g4, 0, none⟩) 3 3, .bool n0, .int .i64 n1, .int .i64 n2], ?_, ?_⟩
    · simp [results, Try.results34, go_sem, e0, e1, e2, e3, e4]
    · rw [stB_all hoa hob, HK.out]
      have hgl := (owns_cap hrowr).2.2
      have hBf : Below x.heap.size x (Wr.putObj D' (.deferred none)) := hBel.trans (belowK_b (w := W0) hB0.size _ D' _ _ hD hK' rfl rfl)
      have hsz4 : (Wr.putObj D' (.deferred none)).heap.size = Wr.heap.size := by simp
      have cA : ∀ j, j < 12 → (Wr.putObj D' (.deferred none)).cell? ⟨g4, j, none⟩ = (cs3 (spF true (L.getD 0 noSp) (M.getD 0 noSp)) ++ cs3 (spF true (L.getD 1 noSp) (M.getD 1 noSp)) ++ cs3 (spF true (L.getD 2 noSp) (M.getD 2 noSp)) ++ cs3 (n0, n1, n2))[j]? := fun j hj => by
        have h := World.ownsRow.cellAt hrowr j (by omega)
        rw [List.getElem?_eq_getElem (by simpa [cs3] using hj)] at h ⊢
        exact hkeep h
      refine ⟨_, rfl, ⟨_, _, rfl, by unfold maxLen; simp [row3], .inr ⟨g4, 0, rfl, by omega, by omega, Nat.le_refl _, fun _ k => ?_, fun j hj => ?_⟩⟩, hBf⟩
      · obtain ⟨ob, hob4, hcb⟩ := cells_of_cell (W := Wr) (a := ⟨g4, 0, none⟩) (v := .bool (spF true (L.getD 0 noSp) (M.getD 0 noSp)).1) (World.ownsRow.cellAt hrowr 0 (by omega))
        exact (World.frozen?_of_block (a := ⟨g4, k, none⟩) (grownBy_keeps_cells (grownBy_putObj' _ D' (.deferred none)) (fun r e => by cases e; exact ⟨_, hK', rfl⟩) hob4 hcb)).trans (World.ownsRow.frozenAt hrowr k)
      · match j, hj with
        | 0, _ => exact ⟨cA 0 (by omega), cA 1 (by omega), cA 2 (by omega)⟩
        | 1, _ => exact ⟨cA 3 (by omega), cA 4 (by omega), cA 5 (by omega)⟩
        | 2, _ => exact ⟨cA 6 (by omega), cA 7 (by omega), cA 8 (by omega)⟩
        | j + 3, hj => exact absurd hj (by simp [row3])
  case stop =>
    rintro D' cc pre W hD ⟨k, hk, rfl⟩ hF hK
    exact hF.elim

theorem sbs_any_false (x : World) (z z' : Bool) (B E C D : Nat) (a : Bool) (v : Value) (L : List Sp) (c : Bool) (l u : Int) (b : Bool) (v' : Value) (M : List Sp) (d : Bool) (l' u' : Int) (h : SpsAt z x B E v L) (h' : SpsAt z' x C D v' M) :
    Calls Try.prog 34 #[.agg #[.bool a, v, .bool c, .int .i64 l, .int .i64 u], .agg #[.bool b, v', .bool d, .int .i64 l', .int .i64 u'], .func (.func 35) #[] #[]] x fun e y => StAt (stBoth false a L (c, l, u) b M (d, l', u')) x e y := by
  cases hh : (stOk a L (c, l, u) && stOk b M (d, l', u') && a && b)
  · exact sbs_early_false x z z' B E C D a v L c l u b v' M d l' u' hh h h'
  · simp only [Bool.and_eq_true] at hh
    obtain ⟨⟨⟨hoa, hob⟩, rfl⟩, rfl⟩ := hh
    exact sbs_both_false x z z' B E C D v L c l u v' M d l' u' hoa hob h h'

theorem sbs_any_true (x : World) (z z' : Bool) (B E C D : Nat) (a : Bool) (v : Value) (L : List Sp) (c : Bool) (l u : Int) (b : Bool) (v' : Value) (M : List Sp) (d : Bool) (l' u' : Int) (h : SpsAt z x B E v L) (h' : SpsAt z' x C D v' M) :
    Calls Try.prog 34 #[.agg #[.bool a, v, .bool c, .int .i64 l, .int .i64 u], .agg #[.bool b, v', .bool d, .int .i64 l', .int .i64 u'], .func (.func 40) #[] #[]] x fun e y => StAt (stBoth true a L (c, l, u) b M (d, l', u')) x e y := by
  cases hh : (stOk a L (c, l, u) && stOk b M (d, l', u') && a && b)
  · exact sbs_early_true x z z' B E C D a v L c l u b v' M d l' u' hh h h'
  · simp only [Bool.and_eq_true] at hh
    obtain ⟨⟨⟨hoa, hob⟩, rfl⟩, rfl⟩ := hh
    exact sbs_both_true x z z' B E C D v L c l u v' M d l' u' hoa hob h h'

set_option maxHeartbeats 1000000 in
theorem stJoin_impl (x : World) (z z' : Bool) (B E C D : Nat) (a : Bool) (v : Value) (L : List Sp) (c : Bool) (l u : Int) (b : Bool) (v' : Value) (M : List Sp) (d : Bool) (l' u' : Int) (h : SpsAt z x B E v L) (h' : SpsAt z' x C D v' M) :
    Calls Try.prog 13 #[.agg #[.bool a, v, .bool c, .int .i64 l, .int .i64 u], .agg #[.bool b, v', .bool d, .int .i64 l', .int .i64 u']] x fun e y => StAt (stBoth false a L (c, l, u) b M (d, l', u')) x e y := by
  obtain ⟨p, cap, hv⟩ := h.shape
  obtain ⟨p', cap', hv'⟩ := h'.shape
  generalize hn : L.length = n at hv
  generalize hm : M.length = m at hv'
  subst hv hv'
  clear hn hm
  obtain ⟨⟨ra, rL, rc, rl, ru⟩, hr⟩ : ∃ r, stBoth false a L (c, l, u) b M (d, l', u') = r := ⟨_, rfl⟩
  have HR : Hid (stBoth false a L (c, l, u) b M (d, l', u') = (ra, rL, rc, rl, ru)) := hr
  clear hr
  have hba : Below x.heap.size x (((x.alloc (.cells #[.bool a, .slice p n cap, .bool c, .int .i64 l, .int .i64 u] 31)).alloc (.cells #[.bool b, .slice p' m cap', .bool d, .int .i64 l', .int .i64 u'] 31)).alloc (.cells #[.bool false, .slice none 0 0, .bool false, .int .i64 0, .int .i64 0] 31)) := by go_grown
  have hz : (((x.alloc (.cells #[.bool a, .slice p n cap, .bool c, .int .i64 l, .int .i64 u] 31)).alloc (.cells #[.bool b, .slice p' m cap', .bool d, .int .i64 l', .int .i64 u'] 31)).alloc (.cells #[.bool false, .slice none 0 0, .bool false, .int .i64 0, .int .i64 0] 31)).heap.size = x.heap.size + 3 := by simp
  have kr := Bx5.new ((x.alloc (.cells #[.bool a, .slice p n cap, .bool c, .int .i64 l, .int .i64 u] 31)).alloc (.cells #[.bool b, .slice p' m cap', .bool d, .int .i64 l', .int .i64 u'] 31)) (.bool false) (.slice none 0 0) (.bool false) (.int .i64 0) (.int .i64 0) 31
  simp only [World.size_alloc] at kr
  have h3 := h.later hba
  have h3' := h'.later hba
  have HZ : Hid ((((x.alloc (.cells #[.bool a, .slice p n cap, .bool c, .int .i64 l, .int .i64 u] 31)).alloc (.cells #[.bool b, .slice p' m cap', .bool d, .int .i64 l', .int .i64 u'] 31)).alloc (.cells #[.bool false, .slice none 0 0, .bool false, .int .i64 0, .int .i64 0] 31)).heap.size = x.heap.size + 3) := hz
  clear hz
  go_enter Try.func13, Try.ntmps13
  go_wp2_with fail
  refine (sbs_any_false _ z z' B E C D _ _ L _ _ _ _ _ M _ _ _ h3 h3').mono ?_
  rintro e w1 ⟨v1, rfl, hS, hb⟩
  rw [HZ.out] at hS
  rw [HR.out] at hS ⊢
  obtain ⟨p1, cap1, hv1⟩ := hS.shape
  simp only at hv1 hS ⊢
  generalize hq : rL.length = q at hv1
  subst hv1
  have HS : Hid (SpsAt true w1 (x.heap.size + 3) w1.heap.size (.slice p1 q cap1) rL) := hS
  have kr1 := kr.later hb
  have hB : Below x.heap.size x w1 := hba.trans (hb.mono hba.size)
  obtain ⟨k, r0, r1, r2, r3, r4, rf⟩ := kr1
  clear hS hb hba kr h3 h3' hq HZ
  go_wp2_with fail
  refine bodyPost_ret (v := .agg #[.bool ra, .slice p1 q cap1, .bool rc, .int .i64 rl, .int .i64 ru]) (by simp [results, Try.results13, go_sem, k, r0, r1, r2, r3, r4, rf]) rfl ?_
  rw [HR.out]
  refine ⟨_, rfl, ?_, ?_⟩
  · refine SpsAt.wide (B := x.heap.size + 3) (E := w1.heap.size) ?_ (by omega) (by simp) (by simp)
    repeat (refine SpsAt.off ?_ (by omega))
    exact HS.out
  · repeat (refine Below.setCell ?_ (by simp <;> omega) _)
    exact hB

set_option maxHeartbeats 1000000 in
theorem stWide_impl (x : World) (z z' : Bool) (B E C D : Nat) (a : Bool) (v : Value) (L : List Sp) (c : Bool) (l u : Int) (b : Bool) (v' : Value) (M : List Sp) (d : Bool) (l' u' : Int) (h : SpsAt z x B E v L) (h' : SpsAt z' x C D v' M) :
    Calls Try.prog 18 #[.agg #[.bool a, v, .bool c, .int .i64 l, .int .i64 u], .agg #[.bool b, v', .bool d, .int .i64 l', .int .i64 u']] x fun e y => StAt (stBoth true a L (c, l, u) b M (d, l', u')) x e y := by
  obtain ⟨p, cap, hv⟩ := h.shape
  obtain ⟨p', cap', hv'⟩ := h'.shape
  generalize hn : L.length = n at hv
  generalize hm : M.length = m at hv'
  subst hv hv'
  clear hn hm
  obtain ⟨⟨ra, rL, rc, rl, ru⟩, hr⟩ : ∃ r, stBoth true a L (c, l, u) b M (d, l', u') = r := ⟨_, rfl⟩
  have HR : Hid (stBoth true a L (c, l, u) b M (d, l', u') = (ra, rL, rc, rl, ru)) := hr
  clear hr
  have hba : Below x.heap.size x (((x.alloc (.cells #[.bool a, .slice p n cap, .bool c, .int .i64 l, .int .i64 u] 31)).alloc (.cells #[.bool b, .slice p' m cap', .bool d, .int .i64 l', .int .i64 u'] 31)).alloc (.cells #[.bool false, .slice none 0 0, .bool false, .int .i64 0, .int .i64 0] 31)) := by go_grown
  have hz : (((x.alloc (.cells #[.bool a, .slice p n cap, .bool c, .int .i64 l, .int .i64 u] 31)).alloc (.cells #[.bool b, .slice p' m cap', .bool d, .int .i64 l', .int .i64 u'] 31)).alloc (.cells #[.bool false, .slice none 0 0, .bool false, .int .i64 0, .int .i64 0] 31)).heap.size = x.heap.size + 3 := by simp
  have kr := Bx5.new ((x.alloc (.cells #[.bool a, .slice p n cap, .bool c, .int .i64 l, .int .i64 u] 31)).alloc (.cells #[.bool b, .slice p' m cap', .bool d, .int .i64 l', .int .i64 u'] 31)) (.bool false) (.slice none 0 0) (.bool false) (.int .i64 0) (.int .i64 0) 31
  simp only [World.size_alloc] at kr
  have h3 := h.later hba
  have h3' := h'.later hba
  have HZ : Hid ((((x.alloc (.cells #[.bool a, .slice p n cap, .bool c, .int .i64 l, .int .i64 u] 31)).alloc (.cells #[.bool b, .slice p' m cap', .bool d, .int .i64 l', .int .i64 u'] 31)).alloc (.cells #[.bool false, .slice none 0 0, .bool false, .int .i64 0, .int .i64 0] 31)).heap.size = x.heap.size + 3) := hz
  clear hz
  go_enter Try.func18, Try.ntmps18
  go_wp2_with fail
  refine (sbs_any_true _ z z' B E C D _ _ L _ _ _ _ _ M _ _ _ h3 h3').mono ?_
  rintro e w1 ⟨v1, rfl, hS, hb⟩
  rw [HZ.out] at hS
  rw [HR.out] at hS ⊢
  obtain ⟨p1, cap1, hv1⟩ := hS.shape
  simp only at hv1 hS ⊢
  generalize hq : rL.length = q at hv1
  subst hv1
  have HS : Hid (SpsAt true w1 (x.heap.size + 3) w1.heap.size (.slice p1 q cap1) rL) := hS
  have kr1 := kr.later hb
  have hB : Below x.heap.size x w1 := hba.trans (hb.mono hba.size)
  obtain ⟨k, r0, r1, r2, r3, r4, rf⟩ := kr1
  clear hS hb hba kr h3 h3' hq HZ
  go_wp2_with fail
  refine bodyPost_ret (v := .agg #[.bool ra, .slice p1 q cap1, .bool rc, .int .i64 rl, .int .i64 ru]) (by simp [results, Try.results18, go_sem, k, r0, r1, r2, r3, r4, rf]) rfl ?_
  rw [HR.out]
  refine ⟨_, rfl, ?_, ?_⟩
  · refine SpsAt.wide (B := x.heap.size + 3) (E := w1.heap.size) ?_ (by omega) (by simp) (by simp)
    repeat (refine SpsAt.off ?_ (by omega))
    exact HS.out
  · repeat (refine Below.setCell ?_ (by simp <;> omega) _)
    exact hB
end Go.Proofs.Ytdomalclpjijaaa

/-
  A drawn state grows span by span while the reader's place turns.
-/
namespace Go.Proofs.Ytdomalclpjijaaa
open Go.RowKit
set_option linter.unusedVariables false
set_option linter.unusedSimpArgs false

theorem Drawn.bx5 {r B : Nat} {x y : World} (h : Drawn r B x y) {m : Nat} {v0 v1 v2 v3 v4 : Value} (hb : Bx5 x m v0 v1 v2 v3 v4) (hm : m ≠ r) : Bx5 y m v0 v1 v2 v3 v4 :=
  ⟨Nat.lt_of_lt_of_le hb.lt h.size, (h.cell m 0 hm hb.lt).trans hb.c0, (h.cell m 1 hm hb.lt).trans hb.c1, (h.cell m 2 hm hb.lt).trans hb.c2, (h.cell m 3 hm hb.lt).trans hb.c3, (h.cell m 4 hm hb.lt).trans hb.c4, fun k => (h.frozen m k hm hb.lt).trans (hb.fz k)⟩
theorem Drawn.owns {r B : Nat} {x y : World} (h : Drawn r B x y) {base size n : Nat} {e : TypeId} {v : Value} {xs : List Value} (ho : x.ownsRow base e size v n xs) (hr : r < base) : y.ownsRow base e size v n xs :=
  World.ownsRow.kept ho (row := some r) ⟨h.below.os, h.below.tape, h.below.output, h.size, fun k hk hne => h.blk k (fun e => hne (by rw [e])) hk⟩ (by
    cases hv : v.ownBlock with
    | none => simp
    | some k => have := (ho.lt k hv).1; simp; omega)
theorem Drawn.spn {r B : Nat} {x y : World} (h : Drawn r B x y) {g o : Nat} {s : Sp} (hs : Spn x g o s) (hg : g < x.heap.size) (hr : g ≠ r) : Spn y g o s :=
  ⟨(h.cell g _ hr hg).trans hs.c0, (h.cell g _ hr hg).trans hs.c1, (h.cell g _ hr hg).trans hs.c2⟩
theorem Drawn.sps {r B : Nat} {x y : World} (h : Drawn r B x y) {z : Bool} {C E : Nat} {v : Value} {L : List Sp} (hs : SpsAt z x C E v L) (hr : r < C) : SpsAt z y C E v L := by
  obtain ⟨p, cap, hv, hm, hq⟩ := hs
  refine ⟨p, cap, hv, hm, hq.imp id ?_⟩
  rintro ⟨g, o, hp, hB, hg, hE, hf, hj⟩
  exact ⟨g, o, hp, hB, hg, Nat.le_trans hE h.size, fun hz k => (h.frozen g k (by omega) (by omega)).trans (hf hz k), fun j hjl => h.spn (hj j hjl) (by omega) (by omega)⟩
def rowL (L : List Sp) : List Value := L.flatMap cs3
theorem rowL_snoc (L : List Sp) (s : Sp) : rowL (L ++ [s]) = rowL L ++ cs3 s := by simp [rowL]
/-- a drawn state: handed back in new memory, nothing else turned but the reader -/
structure GotSt (r B : Nat) (x : World) (e : Ending) (y : World) : Prop where
  it : ∃ (a : Bool) (L : List Sp) (c : Bool) (l u : Int) (p : Option Addr) (cap : Nat), e = .returned (.agg #[.bool a, .slice p L.length cap, .bool c, .int .i64 l, .int .i64 u]) ∧ L.length ≤ 3 ∧ SpsAt true y x.heap.size y.heap.size (.slice p L.length cap) L ∧ Drawn r B x y

/-- a state that grows: the reader, its box, the row of spans that it owns, the box of the result -/
structure GD (r B : Nat) (x y : World) (m : Nat) (p : Option Addr) (cap n : Nat) (L : List Sp) (c : Bool) (l u : Int) : Prop where
  drawn : Drawn r B x y
  box : Bx5 y m (.bool true) (.slice p n cap) (.bool c) (.int .i64 l) (.int .i64 u)
  own : y.ownsRow (m + 1) 29 3 (.slice p n cap) n (rowL L)
  res : Bx5 y x.heap.size (.bool false) (.slice none 0 0) (.bool false) (.int .i64 0) (.int .i64 0)
  lt : x.heap.size < m
  hr : r < x.heap.size
  len : L.length = n
theorem GD.draw {r B C : Nat} {x y z : World} {m : Nat} {p : Option Addr} {cap n : Nat} {L : List Sp} {c : Bool} {l u : Int} (h : GD r B x y m p cap n L c l u) (hd : Drawn r C y z) : GD r C x z m p cap n L c l u :=
  have h1 := h.lt
  have h2 := h.hr
  ⟨h.drawn.trans hd, hd.bx5 h.box (by omega), hd.owns h.own (by omega), hd.bx5 h.res (by omega), h1, h2, h.len⟩
theorem GD.app {r B C : Nat} {x y z : World} {m : Nat} {p : Option Addr} {cap n : Nat} {L : List Sp} {c : Bool} {l u : Int} (h : GD r B x y m p cap n L c l u) (hn : n ≤ 100) (ty : TypeId) (a : Bool) (k v : Int) (hd : Drawn r C y z) :
    ∃ p' cap' w', (Builtin.append_ #[28, 28] ty #[.slice p n cap, .slice (some ⟨z.heap.size, 0, none⟩) 1 1]).run Try.prog (z.alloc (.cells #[.bool a, .int .i64 k, .int .i64 v] 29)) = .ok (.slice p' (n + 1) cap') w' ∧
      m < z.heap.size ∧ z.cell? ⟨m, 1, none⟩ = some (.slice p n cap) ∧ w'.cell? ⟨m, 1, none⟩ = some (.slice p n cap) ∧ w'.frozen? ⟨m, 1, none⟩ = false ∧ Hid (GD r C x (w'.setCell ⟨m, 1, none⟩ (.slice p' (n + 1) cap')) m p' cap' (n + 1) (L ++ [(a, k, v)]) c l u) := by
  have hz := h.draw hd
  have hm := hz.box.lt
  obtain ⟨p', cap', w', hr, hbx, hown, hbel⟩ := app_step z ty m (m + 1) n _ _ _ _ _ (rowL L) a k v hz.box hz.own hn (by omega) hm
  have hl := h.lt
  have h2 := h.hr
  have hres : Bx5 w' x.heap.size (.bool false) (.slice none 0 0) (.bool false) (.int .i64 0) (.int .i64 0) := by
    have hB := hbel.out
    have hx : x.heap.size < m + 1 := by omega
    obtain ⟨_, c0, c1, c2, c3, c4, cf⟩ := hz.res
    exact ⟨by have := hB.size; omega, (hB.cell (p := ⟨x.heap.size, 0, none⟩) hx).trans c0, (hB.cell (p := ⟨x.heap.size, 1, none⟩) hx).trans c1, (hB.cell (p := ⟨x.heap.size, 2, none⟩) hx).trans c2, (hB.cell (p := ⟨x.heap.size, 3, none⟩) hx).trans c3, (hB.cell (p := ⟨x.heap.size, 4, none⟩) hx).trans c4, fun k => (hB.frozen (p := ⟨x.heap.size, k, none⟩) hx).trans (cf k)⟩
  have hsz := hbel.out.size
  exact ⟨p', cap', w', hr, hm, hz.box.c1, hbx.c1, hbx.fz 1, ⟨(hz.drawn.more hbel.out (by omega) h2).more ((Below.refl m w').setCell (p := ⟨m, 1, none⟩) (Nat.le_refl _) _) (by omega) h2, hbx.set1, by rw [rowL_snoc]; exact owns_off hown.out (by omega), hres.off (by omega), hl, h2, by simp [h.len]⟩⟩
theorem GD.drew {r B : Nat} {x y : World} {m : Nat} {p : Option Addr} {cap n : Nat} {L : List Sp} {c : Bool} {l u : Int} (h : GD r B x y m p cap n L c l u) : GD r B x y.drew m p cap n L c l u := h.draw (drawn_first h.drawn.rd).drewOne
/-- three spans that a row owns are read there -/
theorem GD.spans {r B : Nat} {x y : World} {m : Nat} {p : Option Addr} {cap : Nat} {L : List Sp} {c : Bool} {l u : Int} (h : GD r B x y m p cap 3 L c l u) : ∃ g, p = some ⟨g, 0, none⟩ ∧ m + 1 ≤ g ∧ g < y.heap.size ∧ 3 ≤ cap ∧ (∀ k, y.frozen? ⟨g, k, none⟩ = false) ∧ ∀ j, j < 3 → Spn y g (j * 3) (L.getD j noSp) := by
  have ho := h.own
  rcases h.own.2 with ⟨_, h0⟩ | ⟨g, cap', cur, hv, hg, hh, hc4, _⟩
  · omega
  injection hv with hp _ hc
  subst hp hc
  obtain ⟨s0, s1, s2, rfl⟩ := three_of h.len
  have hlt := (h.own.lt g rfl).2
  have hc := fun j hj => World.ownsRow.cellAt ho j hj
  refine ⟨g, rfl, hg, hlt, hc4, fun k => World.ownsRow.frozenAt ho k, fun j hj => ?_⟩
  match j, hj with
  | 0, _ => exact ⟨hc 0 (by omega), hc 1 (by omega), hc 2 (by omega)⟩
  | 1, _ => exact ⟨hc 3 (by omega), hc 4 (by omega), hc 5 (by omega)⟩
  | 2, _ => exact ⟨hc 6 (by omega), hc 7 (by omega), hc 8 (by omega)⟩
  | j + 3, hj => exact absurd hj (by omega)
end Go.Proofs.Ytdomalclpjijaaa
