/-
  The contract of the model's StateIn.
-/
import Derived.Test.YtbmjjmbimfdkoaaSIn2
namespace Go.Proofs.Ytbmjjmbimfdkoaa
open Go.RowKit
set_option linter.unusedVariables false
set_option linter.unusedSimpArgs false

theorem inS_spec (a : Bool) (al ah : Int) (b : Bool) (bl bh : Int) (w : World) : Calls Try.prog 59 #[.agg #[.bool a, .int .i64 al, .int .i64 ah], .agg #[.bool b, .int .i64 bl, .int .i64 bh]] w fun e w' => e = .returned (.bool (inS (a, al, ah) (b, bl, bh))) ∧ Below w.heap.size w w' := in_spec a al ah b bl bh w
/-- the pairs of the first three are of the registers -/
theorem pairs_yes {L M : List Sp} {c d : Sp} (q : Sp × Sp → Bool) (h : ∀ j, j < 3 → q (L.getD j noSp, M.getD j noSp) = true) : (upto (pairF L M c d) 4).all q = q (c, d) := by
  have h0 := h 0 (by omega)
  have h1 := h 1 (by omega)
  have h2 := h 2 (by omega)
  simp only [upto, List.range_succ, List.range_zero, List.map_append, List.map_cons, List.map_nil, List.all_append, List.all_cons, List.all_nil, pairF]
  simp only [List.nil_append, List.map_append, List.map_cons, List.map_nil, List.all_append, List.all_cons, List.all_nil, show (0 : Nat) < 3 by omega, show (1 : Nat) < 3 by omega, show (2 : Nat) < 3 by omega, show ¬ (3 : Nat) < 3 by omega, if_true, if_false, h0, h1, h2, Bool.true_and, Bool.and_true]
theorem pairs_no {L M : List Sp} {c d : Sp} (q : Sp × Sp → Bool) {j : Nat} (hj : j < 3) (h : q (L.getD j noSp, M.getD j noSp) = false) : (upto (pairF L M c d) 4).all q = false := by
  rw [List.all_eq_false]
  refine ⟨pairF L M c d j, ?_, ?_⟩
  · simp only [upto, List.mem_map, List.mem_range]
    exact ⟨j, by omega, rfl⟩
  · unfold pairF
    rw [if_pos hj, h]
    simp
theorem SpsAt.three {z : Bool} {x : World} {B E : Nat} {p : Option Addr} {cap : Nat} {L : List Sp} (h : SpsAt z x B E (.slice p 3 cap) L) (hL : L.length = 3) : ∃ g o, p = some ⟨g, o, none⟩ ∧ g < x.heap.size ∧ ∀ j, j < 3 → Spn x g (o + j * 3) (L.getD j noSp) := by
  obtain ⟨p1, cap1, hv1, _, hq⟩ := h
  injection hv1 with e1
  rcases hq with h0 | ⟨g, o, hp, _, hgE, hEx, _, hj⟩
  · omega
  · rw [hL] at hj
    exact ⟨g, o, e1.trans hp, by omega, hj⟩
theorem keep8s {w y : World} {m1 m2 g o g' o' k : Nat} {v1 v2 : Value} {i0 j0 : Bool} {i1 i2 j1 j2 : Int} (h : (fun z => z.cell? ⟨m1, 1, none⟩ = some v1 ∧ z.cell? ⟨m2, 1, none⟩ = some v2 ∧ z.cell? ⟨g, o + k * 3, none⟩ = some (.bool i0) ∧ z.cell? ⟨g, o + k * 3 + 1, none⟩ = some (.int .i64 i1) ∧ z.cell? ⟨g, o + k * 3 + 2, none⟩ = some (.int .i64 i2) ∧ z.cell? ⟨g', o' + k * 3, none⟩ = some (.bool j0) ∧ z.cell? ⟨g', o' + k * 3 + 1, none⟩ = some (.int .i64 j1) ∧ z.cell? ⟨g', o' + k * 3 + 2, none⟩ = some (.int .i64 j2)) w) (hb : Below w.heap.size w y) (hm1 : m1 < w.heap.size) (hm2 : m2 < w.heap.size) (hg : g < w.heap.size) (hg' : g' < w.heap.size) : (fun z => z.cell? ⟨m1, 1, none⟩ = some v1 ∧ z.cell? ⟨m2, 1, none⟩ = some v2 ∧ z.cell? ⟨g, o + k * 3, none⟩ = some (.bool i0) ∧ z.cell? ⟨g, o + k * 3 + 1, none⟩ = some (.int .i64 i1) ∧ z.cell? ⟨g, o + k * 3 + 2, none⟩ = some (.int .i64 i2) ∧ z.cell? ⟨g', o' + k * 3, none⟩ = some (.bool j0) ∧ z.cell? ⟨g', o' + k * 3 + 1, none⟩ = some (.int .i64 j1) ∧ z.cell? ⟨g', o' + k * 3 + 2, none⟩ = some (.int .i64 j2)) y := by
  obtain ⟨c1, c2, d0, d1, d2, e0, e1, e2⟩ := h
  exact ⟨(hb.cell (p := ⟨m1, _, none⟩) hm1).trans c1, (hb.cell (p := ⟨m2, _, none⟩) hm2).trans c2, (hb.cell (p := ⟨g, _, none⟩) hg).trans d0, (hb.cell (p := ⟨g, _, none⟩) hg).trans d1, (hb.cell (p := ⟨g, _, none⟩) hg).trans d2, (hb.cell (p := ⟨g', _, none⟩) hg').trans e0, (hb.cell (p := ⟨g', _, none⟩) hg').trans e1, (hb.cell (p := ⟨g', _, none⟩) hg').trans e2⟩

set_option maxHeartbeats 4000000 in
theorem stIn_spec (x : World) (z z' : Bool) (B E C D : Nat) (a : Bool) (v : Value) (L : List Sp) (c : Bool) (l u : Int) (b : Bool) (v' : Value) (M : List Sp) (d : Bool) (l' u' : Int) (h : SpsAt z x B E v L) (h' : SpsAt z' x C D v' M) :
    Calls Try.prog 28 #[.agg #[.bool a, v, .bool c, .int .i64 l, .int .i64 u], .agg #[.bool b, v', .bool d, .int .i64 l', .int .i64 u']] x fun e y => e = .returned (.bool (stIn a L (c, l, u) b M (d, l', u'))) ∧ Below x.heap.size x y := by
  obtain ⟨p, cap, hv⟩ := h.shape
  obtain ⟨p', cap', hv'⟩ := h'.shape
  generalize hn : L.length = n at hv
  generalize hm : M.length = m at hv'
  subst hv hv'
  have HN : Hid (L.length = n) := hn
  have HM : Hid (M.length = m) := hm
  clear hn hm
  have hba : Below x.heap.size x ((x.alloc (.cells #[.bool a, .slice p n cap, .bool c, .int .i64 l, .int .i64 u] 32)).alloc (.cells #[.bool b, .slice p' m cap', .bool d, .int .i64 l', .int .i64 u'] 32)) := by go_grown
  have ka := (Bx5.new x (.bool a) (.slice p n cap) (.bool c) (.int .i64 l) (.int .i64 u) 32).alloc (.cells #[.bool b, .slice p' m cap', .bool d, .int .i64 l', .int .i64 u'] 32)
  have kb := Bx5.new (x.alloc (.cells #[.bool a, .slice p n cap, .bool c, .int .i64 l, .int .i64 u] 32)) (.bool b) (.slice p' m cap') (.bool d) (.int .i64 l') (.int .i64 u') 32
  simp only [World.size_alloc] at kb
  have h3 := h.later hba
  have h3' := h'.later hba
  cases hoa : stOk a L (c, l, u)
  · go_enter Try.func28, Try.ntmps28
    go_wp2_with fail
    refine (stOk_spec _ z B E _ _ L _ _ _ h3).mono ?_
    rintro e w1 ⟨rfl, hb⟩
    rw [hoa]
    replace hba := hba.trans (hb.mono hba.size)
    replace ka := ka.later hb
    replace kb := kb.later hb
    replace h3 := h3.later hb
    replace h3' := h3'.later hb
    clear hb
    obtain ⟨_, a0, a1, a2, a3, a4, _⟩ := id ka
    obtain ⟨_, b0, b1, b2, b3, b4, _⟩ := id kb
    go_wp2_with fail
    go_ret
    exact ⟨ret_bool (by unfold stIn; rw [hoa]; simp), hba⟩
  cases hob : stOk b M (d, l', u')
  · go_enter Try.func28, Try.ntmps28
    go_wp2_with fail
    refine (stOk_spec _ z B E _ _ L _ _ _ h3).mono ?_
    rintro e w1 ⟨rfl, hb⟩
    rw [hoa]
    replace hba := hba.trans (hb.mono hba.size)
    replace ka := ka.later hb
    replace kb := kb.later hb
    replace h3 := h3.later hb
    replace h3' := h3'.later hb
    clear hb
    obtain ⟨_, a0, a1, a2, a3, a4, _⟩ := id ka
    obtain ⟨_, b0, b1, b2, b3, b4, _⟩ := id kb
    go_wp2_with fail
    clear a0 a1 a2 a3 a4 b0 b1 b2 b3 b4
    refine (stOk_spec _ z' C D _ _ M _ _ _ h3').mono ?_
    rintro e w2 ⟨rfl, hb⟩
    rw [hob]
    replace hba := hba.trans (hb.mono hba.size)
    replace ka := ka.later hb
    replace kb := kb.later hb
    replace h3 := h3.later hb
    replace h3' := h3'.later hb
    clear hb
    obtain ⟨_, a0, a1, a2, a3, a4, _⟩ := id ka
    obtain ⟨_, b0, b1, b2, b3, b4, _⟩ := id kb
    go_wp2_with fail
    go_ret
    exact ⟨ret_bool (by unfold stIn; rw [hob]; simp), hba⟩
  cases a
  · go_enter Try.func28, Try.ntmps28
    go_wp2_with fail
    refine (stOk_spec _ z B E _ _ L _ _ _ h3).mono ?_
    rintro e w1 ⟨rfl, hb⟩
    rw [hoa]
    replace hba := hba.trans (hb.mono hba.size)
    replace ka := ka.later hb
    replace kb := kb.later hb
    replace h3 := h3.later hb
    replace h3' := h3'.later hb
    clear hb
    obtain ⟨_, a0, a1, a2, a3, a4, _⟩ := id ka
    obtain ⟨_, b0, b1, b2, b3, b4, _⟩ := id kb
    go_wp2_with fail
    clear a0 a1 a2 a3 a4 b0 b1 b2 b3 b4
    refine (stOk_spec _ z' C D _ _ M _ _ _ h3').mono ?_
    rintro e w2 ⟨rfl, hb⟩
    rw [hob]
    replace hba := hba.trans (hb.mono hba.size)
    replace ka := ka.later hb
    replace kb := kb.later hb
    replace h3 := h3.later hb
    replace h3' := h3'.later hb
    clear hb
    obtain ⟨_, a0, a1, a2, a3, a4, _⟩ := id ka
    obtain ⟨_, b0, b1, b2, b3, b4, _⟩ := id kb
    go_wp2_with fail
    go_ret
    exact ⟨ret_bool (by unfold stIn; rw [hoa, hob]; simp), hba⟩
  cases b
  · go_enter Try.func28, Try.ntmps28
    go_wp2_with fail
    refine (stOk_spec _ z B E _ _ L _ _ _ h3).mono ?_
    rintro e w1 ⟨rfl, hb⟩
    rw [hoa]
    replace hba := hba.trans (hb.mono hba.size)
    replace ka := ka.later hb
    replace kb := kb.later hb
    replace h3 := h3.later hb
    replace h3' := h3'.later hb
    clear hb
    obtain ⟨_, a0, a1, a2, a3, a4, _⟩ := id ka
    obtain ⟨_, b0, b1, b2, b3, b4, _⟩ := id kb
    go_wp2_with fail
    clear a0 a1 a2 a3 a4 b0 b1 b2 b3 b4
    refine (stOk_spec _ z' C D _ _ M _ _ _ h3').mono ?_
    rintro e w2 ⟨rfl, hb⟩
    rw [hob]
    replace hba := hba.trans (hb.mono hba.size)
    replace ka := ka.later hb
    replace kb := kb.later hb
    replace h3 := h3.later hb
    replace h3' := h3'.later hb
    clear hb
    obtain ⟨_, a0, a1, a2, a3, a4, _⟩ := id ka
    obtain ⟨_, b0, b1, b2, b3, b4, _⟩ := id kb
    go_wp2_with fail
    go_ret
    exact ⟨ret_bool (by unfold stIn; rw [hoa, hob]; simp), hba⟩
  have hn3 : n = 3 := HN.out.symm.trans (stOk_len' hoa)
  have hm3 : m = 3 := HM.out.symm.trans (stOk_len' hob)
  subst hn3 hm3
  obtain ⟨g, o, rfl, hgx, hl3⟩ := h.three HN.out
  obtain ⟨g', o', rfl, hgx', hl3'⟩ := h'.three HM.out
  have HX : Hid (∀ j, j < 3 → Spn x g (o + j * 3) (L.getD j noSp)) := hl3
  have HX' : Hid (∀ j, j < 3 → Spn x g' (o' + j * 3) (M.getD j noSp)) := hl3'
  clear hl3 hl3'
  go_enter Try.func28, Try.ntmps28
  go_wp2_with fail
  refine (stOk_spec _ z B E _ _ L _ _ _ h3).mono ?_
  rintro e w1 ⟨rfl, hb⟩
  rw [hoa]
  replace hba := hba.trans (hb.mono hba.size)
  replace ka := ka.later hb
  replace kb := kb.later hb
  replace h3 := h3.later hb
  replace h3' := h3'.later hb
  clear hb
  obtain ⟨_, a0, a1, a2, a3, a4, _⟩ := id ka
  obtain ⟨_, b0, b1, b2, b3, b4, _⟩ := id kb
  go_wp2_with fail
  clear a0 a1 a2 a3 a4 b0 b1 b2 b3 b4
  refine (stOk_spec _ z' C D _ _ M _ _ _ h3').mono ?_
  rintro e w2 ⟨rfl, hb⟩
  rw [hob]
  replace hba := hba.trans (hb.mono hba.size)
  replace ka := ka.later hb
  replace kb := kb.later hb
  replace h3 := h3.later hb
  replace h3' := h3'.later hb
  clear hb
  obtain ⟨_, a0, a1, a2, a3, a4, _⟩ := id ka
  obtain ⟨_, b0, b1, b2, b3, b4, _⟩ := id kb
  clear h3 h3' h h'
  go_wp2_with fail
  clear a0 a1 a2 a3 a4 b0 b1 b2 b3 b4
  have hE : w2.heap.size = w2.heap.size := rfl
  go_loopw [5] (fun t y => ∃ k : Nat, k ≤ 3 ∧ t = .int .i64 k ∧ Below w2.heap.size w2 y ∧ (∀ j, j < k → inS (L.getD j noSp) (M.getD j noSp) = true)) (fun t _ => 3 - (intOf t).toNat)
  case atStart => exact ⟨0, by omega, rfl, Below.refl _ _, fun j hj => by omega⟩
  case round =>
    clear hE
    obtain ⟨k, hk, rfl, hB, hd⟩ := hrel
    have HD : Hid (∀ j, j < k → inS (L.getD j noSp) (M.getD j noSp) = true) := hd
    clear hd
    have hBx := hba.trans (hB.mono hba.size)
    obtain ⟨al, a0, a1, a2, a3, a4, _⟩ := ka.later hB
    obtain ⟨bl, b0, b1, b2, b3, b4, _⟩ := kb.later hB
    by_cases hlt : k < 3
    · have hki : (k : Int) < 3 := by omega
      obtain ⟨q0, q1, q2⟩ := (HX.out k hlt).later hBx hgx
      obtain ⟨r0, r1, r2⟩ := (HX'.out k hlt).later hBx hgx'
      generalize hI : L.getD k noSp = I at q0 q1 q2
      have HI : Hid (L.getD k noSp = I) := hI
      clear hI
      generalize hJ : M.getD k noSp = J at r0 r1 r2
      have HJ : Hid (M.getD k noSp = J) := hJ
      clear hJ
      obtain ⟨i0, i1, i2⟩ := I
      obtain ⟨j0, j1, j2⟩ := J
      simp only at q0 q1 q2 r0 r1 r2
      have hgw : g < wr.heap.size := Nat.lt_of_lt_of_le hgx hBx.size
      have hgw' : g' < wr.heap.size := Nat.lt_of_lt_of_le hgx' hBx.size
      go_wp2_with fail
      go_region_held3 (fun z => z.cell? ⟨x.heap.size, 1, none⟩ = some (.slice (some ⟨g, o, none⟩) 3 cap) ∧ z.cell? ⟨x.heap.size + 1, 1, none⟩ = some (.slice (some ⟨g', o', none⟩) 3 cap') ∧ z.cell? ⟨g, o + k * 3, none⟩ = some (.bool i0) ∧ z.cell? ⟨g, o + k * 3 + 1, none⟩ = some (.int .i64 i1) ∧ z.cell? ⟨g, o + k * 3 + 2, none⟩ = some (.int .i64 i2) ∧ z.cell? ⟨g', o' + k * 3, none⟩ = some (.bool j0) ∧ z.cell? ⟨g', o' + k * 3 + 1, none⟩ = some (.int .i64 j1) ∧ z.cell? ⟨g', o' + k * 3 + 2, none⟩ = some (.int .i64 j2)) (first | (with_reducible assumption) | exact ⟨a1, b1, q0, q1, q2, r0, r1, r2⟩ | fail) ((go_at_call 59; refine (inS_spec i0 i1 i2 j0 j1 j2 _).mono ?_; rintro e w5 ⟨rfl, hb5⟩; have hS5 := keep8s (w := wr.drew) (o := o) (o' := o') (k := k) ⟨a1, b1, q0, q1, q2, r0, r1, r2⟩ hb5 al bl hgw hgw'))
      have hB5 : Below w2.heap.size w2 w5 := (hB.trans ((Below.drew (Below.refl _ _)).mono hB.size)).trans (hb5.mono hB.size)
      clear hS5 hb5
      cases hs : inS (i0, i1, i2) (j0, j1, j2)
      · go_wp2_with fail
        go_ret
        refine ⟨ret_bool ?_, hba.trans (hB5.mono hba.size)⟩
        unfold stIn
        rw [pairs_no (fun p => inS p.1 p.2) hlt (by rw [HI.out, HJ.out]; exact hs), hoa, hob]
        rfl
      · go_wp2_with fail
        go_roundw
        case rel =>
          refine ⟨k + 1, by omega, by go_num, hB5, fun j hj => ?_⟩
          by_cases hjk : j = k
          · subst hjk; rw [HI.out, HJ.out]; exact hs
          · exact HD.out j (by omega)
        case measure => simp [intOf]; omega
    · have hki : ¬ (k : Int) < 3 := by omega
      go_wp2_with fail
      refine (inS_spec _ _ _ _ _ _ _).mono ?_
      rintro e w5 ⟨rfl, hb5⟩
      go_wp2_with fail
      go_ret
      refine ⟨ret_bool ?_, hBx.trans (hb5.mono hBx.size)⟩
      unfold stIn
      rw [pairs_yes (fun p => inS p.1 p.2) (fun j hj => HD.out j (by omega)), hoa, hob]
      rfl
end Go.Proofs.Ytbmjjmbimfdkoaa
