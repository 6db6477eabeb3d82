import Derived.Test.YtlkebkajdlgebaaGreatB19
import Derived.Test.YtlkebkajdlgebaaGreatB18
/-
  Whether a row's calls are ok: the contract of callsOk, given one of callsOf (HC: what it gives has m among it where q m).
-/
namespace Go.Proofs.YtlkebkajdlgebaaGreat
open Go.RowKit
set_option linter.unusedVariables false
set_option linter.unusedSimpArgs false

def callIs (q : Int → Bool) (C : Nat → Int) (j : Nat) : Bool := q (C (j * 2)) && (decide (0 ≤ C (j * 2 + 1)) && decide (C (j * 2 + 1) ≤ 2))
def callsF (q : Int → Bool) (n : Nat) (C : Nat → Int) : Bool := allB (callIs q C) n && allB (fun j => decide (callO C j (j + 1) < 0)) (n - 1)
set_option maxRecDepth 100000 in
set_option maxHeartbeats 4000000 in
theorem callsOk_of (x0 : World) (B : Nat) (v : Value) (P : List (List I4)) (h : ProgAt x0 B v P) (hok : progOkF P = true) (k0 : Nat) (hk0 : k0 < P.length) (u : Value) (n : Nat) (C : Nat → Int) (hs : IRowW 2 x0 u n C) (q : Int → Bool)
    (HC : ∀ (y : World) (uc : Value), CodeAt y B uc (P.getD k0 []) → Calls Tryz.prog 108 #[.agg #[uc]] y fun e z => ∃ w L, e = .returned w ∧ IntsW z w L ∧ (∀ m, decide (m ∈ L) = q m) ∧ Below y.heap.size y z) :
    Calls Tryz.prog 84 #[v, .int .i64 k0, u] x0 fun e y => e = .returned (.bool (callsF q n C)) ∧ Below x0.heap.size x0 y := by
  obtain ⟨pp, cp, rfl, _⟩ := h.shape
  obtain ⟨ps, cs, rfl⟩ := hs.shape
  have hm := hs.len
  unfold maxLen at hm
  have hni : (n : Int) ≤ 9223372036854775807 := by omega
  clear hm
  have hl4 := (progOkF_len hok).2
  have hpi : (P.length : Int) ≤ 4 := by omega
  have hki0 : (k0 : Int) < (P.length : Int) := by omega
  obtain ⟨g0, o0, uc, rfl, hg0, hu, hcu⟩ := h.code hk0
  have HS : Hid (IRowW 2 x0 (.slice ps n cs) n C) := hs
  have HF : Hid (callsF q n C = (allB (callIs q C) n && allB (fun j => decide (callO C j (j + 1) < 0)) (n - 1))) := rfl
  have HCU : Hid (CodeAt x0 B uc (P.getD k0 [])) := hcu
  have HCC : Hid (∀ (y : World) (uc : Value), CodeAt y B uc (P.getD k0 []) → Calls Tryz.prog 108 #[.agg #[uc]] y fun e z => ∃ w L, e = .returned w ∧ IntsW z w L ∧ (∀ m, decide (m ∈ L) = q m) ∧ Below y.heap.size y z) := HC
  clear h hok hs hcu HC
  generalize callsF q n C = F at HF ⊢
  go_enter Tryz.func84, Tryz.ntmps84
  go_wp2_with fail
  refine (HCC.out _ _ HCU.out).mono ?_
  rintro e y ⟨w, L, rfl, hL, hq, hb⟩
  obtain ⟨pl, cl, rfl⟩ := hL.shape
  have HL : Hid (IntsW y (.slice pl L.length cl) L) := hL
  have HQ : Hid (∀ m, decide (m ∈ L) = q m) := hq
  have HY : Hid (Below x0.heap.size x0 y) := hb
  clear hL hq hb HCC HCU
  go_wp2_with fail
  go_loopw [17] (fun t z => ∃ k : Nat, k ≤ n ∧ t = .int .i64 k ∧ Hid (Below x0.heap.size x0 z ∧ Below y.heap.size y z) ∧ Hid (∀ j, j < k → callIs q C j = true)) (fun t _ => n - (intOf t).toNat)
  case atStart => exact ⟨0, by omega, rfl, ⟨HY.out, Below.refl _ _⟩, fun j hj => by omega⟩
  case round =>
    obtain ⟨k, hk, rfl, HB, hd⟩ := hrel
    by_cases hlt : k < n
    · obtain ⟨p', cap', hv, _, hc⟩ := HS.out
      injection hv with e1 _ e3
      subst e1 e3
      rcases hc with h0 | ⟨g, o, rfl, hBg, hgE, hEx, _, hins⟩
      · omega
      have hki : (k : Int) < (n : Int) := by omega
      have hgx : g < x0.heap.size := by omega
      have hgw : g < wr.heap.size := Nat.lt_of_lt_of_le hgx HB.out.1.size
      have d0 := (HB.out.1.cell (p := ⟨g, o + k * 2, none⟩) hgx).trans (hins (k * 2) (by omega))
      have d1 := (HB.out.1.cell (p := ⟨g, o + (k * 2 + 1), none⟩) hgx).trans (hins (k * 2 + 1) (by omega))
      rw [← Nat.add_assoc] at d1
      clear hins hBg hgE hEx hgx hu hg0
      have HI : Hid (callIs q C k = (q (C (k * 2)) && (decide (0 ≤ C (k * 2 + 1)) && decide (C (k * 2 + 1) ≤ 2)))) := rfl
      generalize hI : callIs q C k = I at HI
      have HIK : Hid (callIs q C k = I) := hI
      clear hI
      generalize C (k * 2) = s0 at *
      generalize C (k * 2 + 1) = s1 at *
      go_wp2_with fail
      have HX : Hid (Below x0.heap.size x0 (wr.alloc (.cells #[.int .i64 s0, .int .i64 s1] 99)) ∧ Below y.heap.size y (wr.alloc (.cells #[.int .i64 s0, .int .i64 s1] 99))) := ⟨HB.out.1.alloc HB.out.1.size _, HB.out.2.alloc HB.out.2.size _⟩
      have KX : Hid (BxN (wr.alloc (.cells #[.int .i64 s0, .int .i64 s1] 99)) wr.heap.size [.int .i64 s0, .int .i64 s1]) := BxN.new wr [_, _] _
      generalize wr.alloc (.cells #[.int .i64 s0, .int .i64 s1] 99) = X at HX KX ⊢
      refine (contains_any X _ L s0 (HL.out.later HX.out.2)).mono ?_
      rintro e z ⟨rfl, rfl⟩
      rw [HQ.out]
      cases hq0 : q s0
      · have HNO : Hid (allB (callIs q C) n = false) := allB_no hlt (by rw [HIK.out, HI.out, hq0]; rfl)
        go_wp2_with fail
        go_ret
        exact ⟨ret_bool (by rw [HF.out, HNO.out]; rfl), HX.out.1⟩
      · have a1 := KX.out.c 1 _ rfl
        have l1 := KX.out.lt
        have HI2 : Hid ((decide (0 ≤ s1) && decide (s1 ≤ 2)) = I) := by show _ = _; rw [HI.out, hq0]; rfl
        clear HI KX
        go_wp2_with fail
        refine (isKind_any s1 _).mono ?_
        rintro e z2 ⟨rfl, rfl⟩
        rw [HI2.out]
        clear HI2
        cases I
        · have HNO : Hid (allB (callIs q C) n = false) := allB_no hlt HIK.out
          go_wp2_with fail
          go_ret
          exact ⟨ret_bool (by rw [HF.out, HNO.out]; rfl), HX.out.1⟩
        · go_wp2_with fail
          go_roundw
          case rel =>
            refine ⟨k + 1, by omega, by go_num, HX, fun j hj => ?_⟩
            rcases (by omega : j < k ∨ j = k) with hjk | rfl
            · exact hd.out j hjk
            · exact HIK.out
          case measure => simp [intOf]; omega
    · obtain rfl : k = n := by omega
      have hki : ¬ (k : Int) < (k : Int) := by omega
      have HE : Hid (allB (callIs q C) k = true) := allB_yes hd.out
      go_wp2_with fail
      refine (ascendCallS_any _ _ k C (HS.out.later HB.out.1)).mono ?_
      rintro e z ⟨rfl, hb⟩
      go_wp2_with fail
      go_ret
      exact ⟨ret_bool (by rw [HF.out, HE.out]; rfl), HB.out.1.trans (hb.mono HB.out.1.size)⟩

end Go.Proofs.YtlkebkajdlgebaaGreat

/-
  The contracts of the laws' own helpers that measure sums: szRow, szRowS, szSum, szSumS.
-/
namespace Go.Proofs.YtlkebkajdlgebaaGreat
open Go.RowKit
set_option linter.unusedVariables false
set_option linter.unusedSimpArgs false

set_option maxRecDepth 100000 in
set_option maxHeartbeats 1000000 in
theorem szRow_any (b : Bool) (n1 n2 : Int) (p p' : Option Addr) (n m cap cap' : Nat) (left : Int) (w : World) (h0 : 0 ≤ left) (h1 : left ≤ 1048576) (hn : n ≤ maxLen) (hm : m ≤ maxLen) :
    Calls Tryz.prog 47 #[.agg #[.bool b, .int .i64 n1, .int .i64 n2, .slice p n cap, .slice p' m cap'], .int .i64 left] w fun e w' => ∃ r : Int, e = .returned (.int .i64 r) ∧ (0 ≤ r → n ≤ 1048576 ∧ m ≤ 1048576) ∧ r ≤ 1048576 ∧ Below w.heap.size w w' := by
  by_cases hlt : left - (n : Int) < 0
  · go_enter Tryz.func47, Tryz.ntmps47
    go_wp2_with fail
    refine (szSiteS_any p n cap left _ h0 h1 hn).mono ?_
    rintro e w' ⟨rfl, rfl⟩
    rw [if_pos (by omega)]
    go_wp2_with fail
    go_ret
    exact ⟨-1, rfl, fun h => by omega, by omega, (Below.refl _ _).alloc (Nat.le_refl _) _⟩
  · have hl' : ¬ left - (n : Int) < 0 := hlt
    have h2 : 0 ≤ left - (n : Int) := by omega
    have h3 : left - (n : Int) ≤ 1048576 := by omega
    have hn2 : n ≤ 1048576 := by omega
    by_cases hlt2 : left - (n : Int) - (m : Int) < 0
    · go_enter Tryz.func47, Tryz.ntmps47
      go_wp2_with fail
      refine (szSiteS_any p n cap left _ h0 h1 hn).mono ?_
      rintro e w' ⟨rfl, rfl⟩
      rw [if_neg (by omega)]
      generalize hl3 : left - (n : Int) = l3 at *
      go_wp2_with fail
      refine (szCallS_any p' m cap' l3 _ h2 h3 hm).mono ?_
      rintro e w' ⟨rfl, rfl⟩
      rw [if_pos (by omega)]
      go_wp2_with fail
      go_ret
      exact ⟨-1, rfl, fun h => by omega, by omega, (Below.refl _ _).alloc (Nat.le_refl _) _⟩
    · have hl2 : ¬ left - (n : Int) - (m : Int) < 0 := hlt2
      go_enter Tryz.func47, Tryz.ntmps47
      go_wp2_with fail
      refine (szSiteS_any p n cap left _ h0 h1 hn).mono ?_
      rintro e w' ⟨rfl, rfl⟩
      rw [if_neg (by omega)]
      generalize hl3 : left - (n : Int) = l3 at *
      go_wp2_with fail
      refine (szCallS_any p' m cap' l3 _ h2 h3 hm).mono ?_
      rintro e w' ⟨rfl, rfl⟩
      rw [if_neg (by omega)]
      go_wp2_with fail
      go_ret
      exact ⟨_, rfl, fun h => by omega, by omega, (Below.refl _ _).alloc (Nat.le_refl _) _⟩

end Go.Proofs.YtlkebkajdlgebaaGreat

/-
  The contracts of the laws' own helpers that measure sums: szRowS, szSum, szSumS.
-/
namespace Go.Proofs.YtlkebkajdlgebaaGreat
open Go.RowKit
set_option linter.unusedVariables false
set_option linter.unusedSimpArgs false

set_option maxHeartbeats 2000000 in
theorem szRowS_any (x : World) (v : Value) (R : List Rw) (h : RowsAt x v R) (left : Int) (h0 : 0 ≤ left) (h1 : left ≤ 1048576) :
    Calls Tryz.prog 30 #[v, .int .i64 left] x fun e y => ∃ r : Int, e = .returned (.int .i64 r) ∧ (0 ≤ r → rowsSz R) ∧ r ≤ 1048576 ∧ Below x.heap.size x y := by
  obtain ⟨p, cap, rfl, hm, hc⟩ := h
  unfold rowsSz
  generalize hL : R.length = n at *
  have HL : Hid (R.length = n) := hL
  have HM : Hid (n ≤ maxLen) := hm
  unfold maxLen at hm
  have hni : (n : Int) ≤ 9223372036854775807 := by omega
  clear hL hm
  by_cases hbig : left - (n : Int) < 0
  · go_enter Tryz.func30, Tryz.ntmps30
    go_wp2_with fail
    go_ret
    exact ⟨-1, rfl, fun h => by omega, by omega, Below.refl _ _⟩
  · have hbig' : ¬ left - (n : Int) < 0 := hbig
    have HB : Hid (n ≤ 1048576) := by show n ≤ 1048576; omega
    go_enter Tryz.func30, Tryz.ntmps30
    go_wp2_with fail
    go_loopw [1, 5] (fun l t y => ∃ (k : Nat) (L : Int), k ≤ n ∧ t = .int .i64 k ∧ l = .int .i64 L ∧ 0 ≤ L ∧ L ≤ 1048576 ∧ Hid (∀ j, j < k → rwSz (R.getD j rw0)) ∧ Below x.heap.size x y) (fun _ t _ => n - (intOf t).toNat)
    case atStart => exact ⟨0, _, by omega, rfl, rfl, by omega, by omega, fun j hj => by omega, Below.refl _ _⟩
    case round =>
      obtain ⟨k, L, hk, rfl, rfl, hL0, hL1, HD, hB⟩ := hrel
      by_cases hlt : k < n
      · rcases hc with h0 | ⟨g, o, rfl, hgx, hins⟩
        · omega
        have hki : (k : Int) < (n : Int) := by omega
        obtain ⟨c0, c1, c2, ⟨u3, c3, i3⟩, ⟨u4, c4, i4⟩⟩ := (hins k hlt).later hB hgx
        have hl3 := i3.len
        have hl4 := i4.len
        obtain ⟨p3, k3, rfl⟩ := i3.shape
        obtain ⟨p4, k4, rfl⟩ := i4.shape
        clear hins i3 i4
        generalize hI : R.getD k rw0 = f at *
        have HII : Hid (R.getD k rw0 = f) := hI
        clear hI
        obtain ⟨⟨s1, s2, s3⟩, ns, S, nc, C⟩ := f
        simp only at c0 c1 c2 c3 c4 hl3 hl4
        have H3 : Hid (ns ≤ maxLen ∧ nc ≤ maxLen) := ⟨hl3, hl4⟩
        clear hl3 hl4
        go_wp2_with fail
        refine (szRow_any _ _ _ _ _ _ _ _ _ _ _ hL0 hL1 H3.out.1 H3.out.2).mono ?_
        rintro e w2 ⟨r2, rfl, hr0, hr1, hb2⟩
        have hB2 := hB.trans (hb2.mono hB.size)
        by_cases hneg : r2 < 0
        · go_wp2_with fail
          go_ret
          exact ⟨-1, rfl, fun h => by omega, by omega, hB2⟩
        · have HD2 : Hid (∀ j, j < k + 1 → rwSz (R.getD j rw0)) := fun j hj => by
            by_cases hjk : j = k
            · subst hjk; rw [HII.out]; exact hr0 (by omega)
            · exact HD.out j (by omega)
          clear hr0
          go_wp2_with fail
          go_roundw
          case rel => exact ⟨k + 1, r2, by omega, by go_num, rfl, by omega, hr1, HD2, hB2⟩
          case measure => simp [intOf]; omega
      · obtain rfl : k = n := by omega
        have hki : ¬ (k : Int) < (k : Int) := by omega
        go_wp2_with fail
        go_ret
        exact ⟨L, rfl, fun _ => ⟨HB.out, HD.out⟩, hL1, hB⟩

set_option maxHeartbeats 1000000 in
theorem szSum_any (x : World) (n0 : Int) (s : Value) (R : List Rw) (h : RowsAt x s R) (left : Int) (h0 : 0 ≤ left) (h1 : left ≤ 1048576) :
    Calls Tryz.prog 8 #[.agg #[.int .i64 n0, s], .int .i64 left] x fun e y => ∃ r : Int, e = .returned (.int .i64 r) ∧ (0 ≤ r → rowsSz R) ∧ r ≤ 1048576 ∧ Below x.heap.size x y := by
  obtain ⟨p, cap, rfl, _⟩ := h.shape
  have HF : Hid (RowsAt x (.slice p R.length cap) R) := h
  clear h
  go_enter Tryz.func8, Tryz.ntmps8
  go_wp2_with fail
  have hbW : Below x.heap.size x (x.alloc (.cells #[.int .i64 n0, .slice p R.length cap] 25)) := (Below.refl _ _).alloc (Nat.le_refl _) _
  refine (szRowS_any _ _ R (HF.out.later hbW) left h0 h1).mono ?_
  rintro e y ⟨r, rfl, hr0, hr1, hb⟩
  have hB := hbW.trans (hb.mono hbW.size)
  have HR : Hid (0 ≤ r → rowsSz R) := hr0
  clear hr0 hb hbW HF
  by_cases hneg : r < 0
  · go_wp2_with fail
    go_ret
    exact ⟨-1, rfl, fun h => by omega, by omega, hB⟩
  · go_wp2_with fail
    go_ret
    exact ⟨r, rfl, HR.out, hr1, hB⟩

set_option maxHeartbeats 2000000 in
theorem szSumS_any (x : World) (v : Value) (M : List Sm) (h : SmsAt x v M) (left : Int) (h0 : 0 ≤ left) (h1 : left ≤ 1048576) :
    Calls Tryz.prog 15 #[v, .int .i64 left] x fun e y => ∃ r : Int, e = .returned (.int .i64 r) ∧ (0 ≤ r → smsSz M) ∧ r ≤ 1048576 ∧ Below x.heap.size x y := by
  obtain ⟨p, cap, rfl, hm, hc⟩ := h
  unfold smsSz
  generalize hL : M.length = n at *
  have HL : Hid (M.length = n) := hL
  have HM : Hid (n ≤ maxLen) := hm
  unfold maxLen at hm
  have hni : (n : Int) ≤ 9223372036854775807 := by omega
  clear hL hm
  by_cases hbig : left - (n : Int) < 0
  · go_enter Tryz.func15, Tryz.ntmps15
    go_wp2_with fail
    go_ret
    exact ⟨-1, rfl, fun h => by omega, by omega, Below.refl _ _⟩
  · have hbig' : ¬ left - (n : Int) < 0 := hbig
    have HB : Hid (n ≤ 1048576) := by show n ≤ 1048576; omega
    go_enter Tryz.func15, Tryz.ntmps15
    go_wp2_with fail
    go_loopw [1, 5] (fun l t y => ∃ (k : Nat) (L : Int), k ≤ n ∧ t = .int .i64 k ∧ l = .int .i64 L ∧ 0 ≤ L ∧ L ≤ 1048576 ∧ Hid (∀ j, j < k → rowsSz (M.getD j sm0).R) ∧ Below x.heap.size x y) (fun _ t _ => n - (intOf t).toNat)
    case atStart => exact ⟨0, _, by omega, rfl, rfl, by omega, by omega, fun j hj => by omega, Below.refl _ _⟩
    case round =>
      obtain ⟨k, L, hk, rfl, rfl, hL0, hL1, HD, hB⟩ := hrel
      by_cases hlt : k < n
      · rcases hc with h0 | ⟨g, o, rfl, hgx, hins⟩
        · omega
        have hki : (k : Int) < (n : Int) := by omega
        obtain ⟨c0, ⟨u1, c1, i1⟩⟩ := (hins k hlt).later hB hgx
        obtain ⟨p1, k1, rfl, _⟩ := i1.shape
        have HI1 : Hid (RowsAt wr (.slice p1 (M.getD k sm0).R.length k1) (M.getD k sm0).R) := i1
        clear hins i1
        generalize hI : M.getD k sm0 = f at *
        have HII : Hid (M.getD k sm0 = f) := hI
        clear hI
        obtain ⟨pp, R⟩ := f
        simp only at c0 c1 HI1
        go_wp2_with fail
        refine (szSum_any wr pp _ R HI1.out L hL0 hL1).mono ?_
        rintro e w2 ⟨r2, rfl, hr0, hr1, hb2⟩
        have hB2 := hB.trans (hb2.mono hB.size)
        by_cases hneg : r2 < 0
        · go_wp2_with fail
          go_ret
          exact ⟨-1, rfl, fun h => by omega, by omega, hB2⟩
        · have HD2 : Hid (∀ j, j < k + 1 → rowsSz (M.getD j sm0).R) := fun j hj => by
            by_cases hjk : j = k
            · subst hjk; rw [HII.out]; exact hr0 (by omega)
            · exact HD.out j (by omega)
          clear hr0 HI1
          go_wp2_with fail
          go_roundw
          case rel => exact ⟨k + 1, r2, by omega, by go_num, rfl, by omega, hr1, HD2, hB2⟩
          case measure => simp [intOf]; omega
      · obtain rfl : k = n := by omega
        have hki : ¬ (k : Int) < (k : Int) := by omega
        go_wp2_with fail
        go_ret
        exact ⟨L, rfl, fun _ => ⟨HB.out, HD.out⟩, hL1, hB⟩

end Go.Proofs.YtlkebkajdlgebaaGreat
