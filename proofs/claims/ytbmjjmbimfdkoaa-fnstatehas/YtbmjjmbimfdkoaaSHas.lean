/-
  The contracts of StateHas, the program's and the model's.
-/
import Derived.Test.YtbmjjmbimfdkoaaSInt
import Derived.Test.YtbmjjmbimfdkoaaSOk
import Derived.Test.YtbmjjmbimfdkoaaSEq
namespace Go.Proofs.Ytbmjjmbimfdkoaa
open Go.RowKit
set_option linter.unusedVariables false
set_option linter.unusedSimpArgs false

def hasS (s : Sp) (n : Int) : Bool := hasF s.1 s.2.1 s.2.2 n
def regsHas (L : List Sp) (R : List Int) : Bool := (List.range 3).all fun j => hasS (L.getD j noSp) (R.getD j 0)
def stHas (a : Bool) (L : List Sp) (c : Sp) (R C : List Int) : Bool := stOk a L c && a && decide (R.length = 3) && decide (C.length = 3) && regsHas L R && C.all (hasS c)
theorem allD_yes {α : Type} {L : List α} (d : α) (f : α → Bool) (h : ∀ j, j < L.length → f (L.getD j d) = true) : L.all f = true := by
  rw [List.all_eq_true]
  intro s hs
  obtain ⟨j, hj, rfl⟩ := List.getElem_of_mem hs
  have := h j hj
  rwa [List.getD_eq_getElem?_getD, List.getElem?_eq_getElem hj] at this
theorem allD_no {α : Type} {L : List α} (d : α) (f : α → Bool) {j : Nat} (hj : j < L.length) (h : f (L.getD j d) = false) : L.all f = false := by
  rw [List.all_eq_false]
  refine ⟨L[j], List.getElem_mem hj, ?_⟩
  rw [List.getD_eq_getElem?_getD, List.getElem?_eq_getElem hj] at h
  simpa using h
theorem regs_yes {L : List Sp} {R : List Int} (h : ∀ j, j < 3 → hasS (L.getD j noSp) (R.getD j 0) = true) : regsHas L R = true := by
  unfold regsHas
  rw [List.all_eq_true]
  exact fun j hj => h j (List.mem_range.1 hj)
theorem regs_no {L : List Sp} {R : List Int} {j : Nat} (hj : j < 3) (h : hasS (L.getD j noSp) (R.getD j 0) = false) : regsHas L R = false := by
  unfold regsHas
  rw [List.all_eq_false]
  exact ⟨j, List.mem_range.2 hj, by simpa using h⟩
theorem stOk_len {L : List Sp} {c : Sp} (h : stOk true L c = true) : L.length = 3 := by
  unfold stOk at h
  rw [if_pos rfl] at h
  simp at h
  exact h.1.1
theorem hasS_impl (a : Bool) (l u n : Int) (w : World) : Calls Try.prog 40 #[.agg #[.bool a, .int .i64 l, .int .i64 u], .int .i64 n] w fun e w' => e = .returned (.bool (hasS (a, l, u) n)) ∧ Below w.heap.size w w' := has_impl a l u n w
theorem hasS_spec (a : Bool) (l u n : Int) (w : World) : Calls Try.prog 58 #[.agg #[.bool a, .int .i64 l, .int .i64 u], .int .i64 n] w fun e w' => e = .returned (.bool (hasS (a, l, u) n)) ∧ Below w.heap.size w w' := has_spec a l u n w

set_option maxHeartbeats 1000000 in
theorem l11Some_any (x : World) (z : Bool) (B E : Nat) (a : Bool) (v : Value) (L : List Sp) (c : Bool) (l u : Int) (h : SpsAt z x B E v L) :
    Calls Try.prog 57 #[.agg #[.bool a, v, .bool c, .int .i64 l, .int .i64 u]] x fun e y => e = .returned (.bool (a && stOk a L (c, l, u))) ∧ Below x.heap.size x y := by
  obtain ⟨p, cap, rfl⟩ := h.shape
  have H : Hid (SpsAt z x B E (.slice p L.length cap) L) := h
  clear h
  cases a
  · go_enter Try.func57, Try.ntmps57
    go_wp2_with fail
    go_ret
    exact ⟨ret_bool (by simp), by go_grown⟩
  · go_enter Try.func57, Try.ntmps57
    go_wp2_with fail
    refine (stOk_spec _ z B E _ _ L _ _ _ (H.out.later (by go_grown))).mono ?_
    rintro e w1 ⟨rfl, hb1⟩
    have hB : Below x.heap.size x w1 := ((Below.refl _ _).alloc (Nat.le_refl _) _).trans (hb1.mono (by simp))
    go_wp2_with fail
    go_ret
    exact ⟨ret_bool (by simp), hB⟩

theorem keep5 {w y : World} {m g o k g1 o1 : Nat} {v : Value} {i0 : Bool} {i1 i2 N : Int} (h : (fun z => z.cell? ⟨m, 1, none⟩ = some v ∧ z.cell? ⟨g, o + k * 3, none⟩ = some (.bool i0) ∧ z.cell? ⟨g, o + k * 3 + 1, none⟩ = some (.int .i64 i1) ∧ z.cell? ⟨g, o + k * 3 + 2, none⟩ = some (.int .i64 i2) ∧ z.cell? ⟨g1, o1 + k, none⟩ = some (.int .i64 N)) w) (hb : Below w.heap.size w y) (hm : m < w.heap.size) (hg : g < w.heap.size) (hg1 : g1 < w.heap.size) : (fun z => z.cell? ⟨m, 1, none⟩ = some v ∧ z.cell? ⟨g, o + k * 3, none⟩ = some (.bool i0) ∧ z.cell? ⟨g, o + k * 3 + 1, none⟩ = some (.int .i64 i1) ∧ z.cell? ⟨g, o + k * 3 + 2, none⟩ = some (.int .i64 i2) ∧ z.cell? ⟨g1, o1 + k, none⟩ = some (.int .i64 N)) y := by
  obtain ⟨c1, d0, d1, d2, e0⟩ := h
  exact ⟨(hb.cell (p := ⟨m, _, none⟩) hm).trans c1, (hb.cell (p := ⟨g, _, none⟩) hg).trans d0, (hb.cell (p := ⟨g, _, none⟩) hg).trans d1, (hb.cell (p := ⟨g, _, none⟩) hg).trans d2, (hb.cell (p := ⟨g1, _, none⟩) hg1).trans e0⟩
theorem keep4 {w y : World} {m k g1 o1 : Nat} {c : Bool} {l u N : Int} (h : (fun z => z.cell? ⟨m, 2, none⟩ = some (.bool c) ∧ z.cell? ⟨m, 3, none⟩ = some (.int .i64 l) ∧ z.cell? ⟨m, 4, none⟩ = some (.int .i64 u) ∧ z.cell? ⟨g1, o1 + k, none⟩ = some (.int .i64 N)) w) (hb : Below w.heap.size w y) (hm : m < w.heap.size) (hg1 : g1 < w.heap.size) : (fun z => z.cell? ⟨m, 2, none⟩ = some (.bool c) ∧ z.cell? ⟨m, 3, none⟩ = some (.int .i64 l) ∧ z.cell? ⟨m, 4, none⟩ = some (.int .i64 u) ∧ z.cell? ⟨g1, o1 + k, none⟩ = some (.int .i64 N)) y := by
  obtain ⟨c1, d0, d1, e0⟩ := h
  exact ⟨(hb.cell (p := ⟨m, _, none⟩) hm).trans c1, (hb.cell (p := ⟨m, _, none⟩) hm).trans d0, (hb.cell (p := ⟨m, _, none⟩) hm).trans d1, (hb.cell (p := ⟨g1, _, none⟩) hg1).trans e0⟩

set_option maxHeartbeats 2000000 in
theorem stHas_impl (x : World) (z z1 z2 : Bool) (B E B1 E1 B2 E2 : Nat) (a : Bool) (v v1 v2 : Value) (L : List Sp) (c : Bool) (l u : Int) (R C : List Int) (h : SpsAt z x B E v L) (h1 : IntsAt z1 x B1 E1 v1 R) (h2 : IntsAt z2 x B2 E2 v2 C) :
    Calls Try.prog 26 #[.agg #[.bool a, v, .bool c, .int .i64 l, .int .i64 u], v1, v2] x fun e y => e = .returned (.bool (stHas a L (c, l, u) R C)) ∧ Below x.heap.size x y := by
  obtain ⟨p, cap, rfl⟩ := h.shape
  obtain ⟨p1, cap1, rfl⟩ := h1.shape
  obtain ⟨p2, cap2, rfl⟩ := h2.shape
  have H : Hid (SpsAt z x B E (.slice p L.length cap) L) := h
  obtain ⟨_, _, hv, _, hc⟩ := h
  obtain ⟨_, _, hv1, hm1, hc1⟩ := h1
  obtain ⟨_, _, hv2, hm2, hc2⟩ := h2
  injection hv with e1 e2 e3
  injection hv1 with f1 f2 f3
  injection hv2 with g1 g2 g3
  subst e1 f1 g1
  clear e2 e3 f2 f3 g2 g3
  unfold maxLen at hm1 hm2
  have hmi1 : (R.length : Int) ≤ 9223372036854775807 := by omega
  have hmi2 : (C.length : Int) ≤ 9223372036854775807 := by omega
  clear hm1 hm2
  have hba := Below.alloc (Below.refl x.heap.size x) (Nat.le_refl _) (.cells #[.bool a, .slice p L.length cap, .bool c, .int .i64 l, .int .i64 u] 32)
  have HOK : Hid (Calls Try.prog 18 #[.agg #[.bool a, .slice p L.length cap, .bool c, .int .i64 l, .int .i64 u]] (x.alloc (.cells #[.bool a, .slice p L.length cap, .bool c, .int .i64 l, .int .i64 u] 32)) fun e y => e = .returned (.bool (stOk a L (c, l, u))) ∧ Below (x.alloc (.cells #[.bool a, .slice p L.length cap, .bool c, .int .i64 l, .int .i64 u] 32)).heap.size (x.alloc (.cells #[.bool a, .slice p L.length cap, .bool c, .int .i64 l, .int .i64 u] 32)) y) := stOk_impl _ z B E _ _ L _ _ _ (H.out.later hba)
  clear hba H
  cases hok : stOk a L (c, l, u)
  · clear hc hc1 hc2
    go_enter Try.func26, Try.ntmps26
    go_wp2_with fail
    refine HOK.out.mono ?_
    rintro e w1 ⟨rfl, hb1⟩
    have hB1 := box_go (Below.refl (x.heap.size + 1) _) (by simp) hb1
    clear hb1 HOK
    obtain ⟨c0, c1, c2, c3, c4⟩ := box5 hB1
    rw [hok]
    go_wp2_with fail
    go_ret
    exact ⟨ret_bool (by unfold stHas; rw [hok]; simp), below_box hB1⟩
  cases a
  · clear hc hc1 hc2
    go_enter Try.func26, Try.ntmps26
    go_wp2_with fail
    refine HOK.out.mono ?_
    rintro e w1 ⟨rfl, hb1⟩
    have hB1 := box_go (Below.refl (x.heap.size + 1) _) (by simp) hb1
    clear hb1 HOK
    obtain ⟨c0, c1, c2, c3, c4⟩ := box5 hB1
    rw [hok]
    go_wp2_with fail
    go_ret
    exact ⟨ret_bool (by unfold stHas; simp), below_box hB1⟩
  by_cases h3 : R.length = 3
  case neg =>
    have h3' : ¬ (R.length : Int) = 3 := by omega
    clear hc hc1 hc2
    go_enter Try.func26, Try.ntmps26
    go_wp2_with fail
    refine HOK.out.mono ?_
    rintro e w1 ⟨rfl, hb1⟩
    have hB1 := box_go (Below.refl (x.heap.size + 1) _) (by simp) hb1
    clear hb1 HOK
    obtain ⟨c0, c1, c2, c3, c4⟩ := box5 hB1
    rw [hok]
    go_wp2_with fail
    go_ret
    exact ⟨ret_bool (by unfold stHas; simp [h3]), below_box hB1⟩
  by_cases h4 : C.length = 3
  case neg =>
    have h4' : ¬ (C.length : Int) = 3 := by omega
    clear hc hc1 hc2
    rw [h3]
    rw [h3] at hmi1
    go_enter Try.func26, Try.ntmps26
    go_wp2_with fail
    refine HOK.out.mono ?_
    rintro e w1 ⟨rfl, hb1⟩
    have hB1 := box_go (Below.refl (x.heap.size + 1) _) (by simp) hb1
    clear hb1 HOK
    obtain ⟨c0, c1, c2, c3, c4⟩ := box5 hB1
    rw [hok]
    go_wp2_with fail
    go_ret
    exact ⟨ret_bool (by unfold stHas; simp [h4]), below_box hB1⟩
  have hL3 := stOk_len hok
  rw [hL3] at hc HOK
  rw [h3] at hc1
  rw [h4] at hc2
  rw [hL3, h3, h4]
  rcases hc with h0 | ⟨g, o, rfl, hBg, hgE, hEx, _, hins⟩
  · omega
  rcases hc1 with h0 | ⟨g1, o1, rfl, hBg1, hgE1, hEx1, _, hins1⟩
  · omega
  rcases hc2 with h0 | ⟨g2, o2, rfl, hBg2, hgE2, hEx2, _, hins2⟩
  · omega
  have hgx : g < x.heap.size := by omega
  have hgx1 : g1 < x.heap.size := by omega
  have hgx2 : g2 < x.heap.size := by omega
  have HX : Hid (∀ j, j < 3 → Spn x g (o + j * 3) (L.getD j noSp)) := hins
  have HX1 : Hid (∀ j, j < 3 → x.cell? ⟨g1, o1 + j, none⟩ = some (.int .i64 (R.getD j 0))) := hins1
  have HX2 : Hid (∀ j, j < 3 → x.cell? ⟨g2, o2 + j, none⟩ = some (.int .i64 (C.getD j 0))) := hins2
  have H3 : Hid (R.length = 3) := h3
  have H4 : Hid (C.length = 3) := h4
  have HO : Hid (stOk true L (c, l, u) = true) := hok
  have HLL : Hid (L.length = 3) := hL3
  clear hins hins1 hins2 h3 h4 hL3 hmi1 hmi2
  go_enter Try.func26, Try.ntmps26
  go_wp2_with fail
  refine HOK.out.mono ?_
  rintro e w1 ⟨rfl, hb1⟩
  have hB1 := box_go (Below.refl (x.heap.size + 1) _) (by simp) hb1
  clear hb1 HOK
  obtain ⟨c0, c1, c2, c3, c4⟩ := box5 hB1
  rw [hok]
  clear hok
  go_wp2_with fail
  go_loopw [31] (fun t y => ∃ k : Nat, k ≤ 3 ∧ t = .int .i64 k ∧ Below (x.heap.size + 1) (x.alloc (.cells #[.bool true, .slice (some ⟨g, o, none⟩) 3 cap, .bool c, .int .i64 l, .int .i64 u] 32)) y ∧ (∀ j, j < k → hasS (L.getD j noSp) (R.getD j 0) = true)) (fun t _ => 3 - (intOf t).toNat)
  case atStart => exact ⟨0, by omega, rfl, hB1, fun j hj => by omega⟩
  case round =>
    clear hB1 c0 c1 c2 c3 c4
    obtain ⟨k, hk, rfl, hB, hd⟩ := hrel
    have HD : Hid (∀ j, j < k → hasS (L.getD j noSp) (R.getD j 0) = true) := hd
    clear hd
    have hB0 := below_box hB
    by_cases hlt : k < 3
    · have hki : (k : Int) < 3 := by omega
      obtain ⟨q0, q1, q2⟩ := (HX.out k hlt).later hB0 hgx
      have r0 := (hB0.cell (p := ⟨g1, o1 + k, none⟩) hgx1).trans (HX1.out k hlt)
      obtain ⟨c0, c1, c2, c3, c4⟩ := box5 hB
      generalize hI : L.getD k noSp = I at q0 q1 q2
      have HII : Hid (L.getD k noSp = I) := hI
      clear hI
      generalize hN : R.getD k 0 = N at r0
      have HNN : Hid (R.getD k 0 = N) := hN
      clear hN
      obtain ⟨i0, i1, i2⟩ := I
      simp only at q0 q1 q2
      go_wp2_with fail
      refine (hasS_impl _ _ _ _ _).mono ?_
      rintro e w2 ⟨rfl, hb2⟩
      have hB2 := box_go hB (by simp) hb2
      clear c0 c1 c2 c3 c4 q0 q1 q2 r0 hb2
      cases hs : hasS (i0, i1, i2) N
      · go_wp2_with fail
        go_ret
        refine ⟨ret_bool ?_, below_box hB2⟩
        unfold stHas
        rw [regs_no hlt (by rw [HII.out, HNN.out]; exact hs)]
        simp
      · go_wp2_with fail
        go_roundw
        case rel =>
          refine ⟨k + 1, by omega, by go_num, hB2, fun j hj => ?_⟩
          by_cases hjk : j = k
          · subst hjk; rw [HII.out, HNN.out]; exact hs
          · exact HD.out j (by omega)
        case measure => simp [intOf]; omega
    · have hki : ¬ (k : Int) < 3 := by omega
      have HR : Hid (regsHas L R = true) := regs_yes fun j hj => HD.out j (by omega)
      clear hB0 hk HD hlt
      go_wp2_with fail
      go_loopw [47] (fun t y => ∃ k : Nat, k ≤ 3 ∧ t = .int .i64 k ∧ Below (x.heap.size + 1) (x.alloc (.cells #[.bool true, .slice (some ⟨g, o, none⟩) 3 cap, .bool c, .int .i64 l, .int .i64 u] 32)) y ∧ (∀ j, j < k → hasS (c, l, u) (C.getD j 0) = true)) (fun t _ => 3 - (intOf t).toNat)
      case atStart => exact ⟨0, by omega, rfl, hB, fun j hj => by omega⟩
      case round =>
        clear hB hki
        obtain ⟨k, hk, rfl, hB, hd⟩ := hrel
        have HD : Hid (∀ j, j < k → hasS (c, l, u) (C.getD j 0) = true) := hd
        clear hd
        have hB0 := below_box hB
        by_cases hlt : k < 3
        · have hki : (k : Int) < 3 := by omega
          have r0 := (hB0.cell (p := ⟨g2, o2 + k, none⟩) hgx2).trans (HX2.out k hlt)
          obtain ⟨c0, c1, c2, c3, c4⟩ := box5 hB
          generalize hN : C.getD k 0 = N at r0
          have HNN : Hid (C.getD k 0 = N) := hN
          clear hN
          go_wp2_with fail
          refine (hasS_impl _ _ _ _ _).mono ?_
          rintro e w2 ⟨rfl, hb2⟩
          have hB2 := box_go hB (by simp) hb2
          clear c0 c1 c2 c3 c4 r0 hb2
          cases hs : hasS (c, l, u) N
          · go_wp2_with fail
            go_ret
            refine ⟨ret_bool ?_, below_box hB2⟩
            unfold stHas
            rw [allD_no 0 (hasS (c, l, u)) (by rw [H4.out]; exact hlt) (by rw [HNN.out]; exact hs)]
            simp
          · go_wp2_with fail
            go_roundw
            case rel =>
              refine ⟨k + 1, by omega, by go_num, hB2, fun j hj => ?_⟩
              by_cases hjk : j = k
              · subst hjk; rw [HNN.out]; exact hs
              · exact HD.out j (by omega)
            case measure => simp [intOf]; omega
        · obtain rfl : k = 3 := by omega
          have HC : Hid (C.all (hasS (c, l, u)) = true) := allD_yes 0 (hasS (c, l, u)) (by rw [H4.out]; exact HD.out)
          clear HD hB0
          go_wp2_with fail
          go_ret
          refine ⟨ret_bool ?_, below_box hB⟩
          unfold stHas
          rw [HR.out, HC.out, HO.out]
          simp [H3.out, H4.out]

set_option maxHeartbeats 2000000 in
theorem stHas_spec (x : World) (z z1 z2 : Bool) (B E B1 E1 B2 E2 : Nat) (a : Bool) (v v1 v2 : Value) (L : List Sp) (c : Bool) (l u : Int) (R C : List Int) (h : SpsAt z x B E v L) (h1 : IntsAt z1 x B1 E1 v1 R) (h2 : IntsAt z2 x B2 E2 v2 C) :
    Calls Try.prog 24 #[.agg #[.bool a, v, .bool c, .int .i64 l, .int .i64 u], v1, v2] x fun e y => e = .returned (.bool (stHas a L (c, l, u) R C)) ∧ Below x.heap.size x y := by
  obtain ⟨p, cap, rfl⟩ := h.shape
  obtain ⟨p1, cap1, rfl⟩ := h1.shape
  obtain ⟨p2, cap2, rfl⟩ := h2.shape
  have H : Hid (SpsAt z x B E (.slice p L.length cap) L) := h
  obtain ⟨_, _, hv, _, hc⟩ := h
  obtain ⟨_, _, hv1, hm1, hc1⟩ := h1
  obtain ⟨_, _, hv2, hm2, hc2⟩ := h2
  injection hv with e1 e2 e3
  injection hv1 with f1 f2 f3
  injection hv2 with g1 g2 g3
  subst e1 f1 g1
  clear e2 e3 f2 f3 g2 g3
  unfold maxLen at hm1 hm2
  have hmi1 : (R.length : Int) ≤ 9223372036854775807 := by omega
  have hmi2 : (C.length : Int) ≤ 9223372036854775807 := by omega
  clear hm1 hm2
  have hba := Below.alloc (Below.refl x.heap.size x) (Nat.le_refl _) (.cells #[.bool a, .slice p L.length cap, .bool c, .int .i64 l, .int .i64 u] 32)
  have HOK : Hid (Calls Try.prog 57 #[.agg #[.bool a, .slice p L.length cap, .bool c, .int .i64 l, .int .i64 u]] (x.alloc (.cells #[.bool a, .slice p L.length cap, .bool c, .int .i64 l, .int .i64 u] 32)) fun e y => e = .returned (.bool (a && stOk a L (c, l, u))) ∧ Below (x.alloc (.cells #[.bool a, .slice p L.length cap, .bool c, .int .i64 l, .int .i64 u] 32)).heap.size (x.alloc (.cells #[.bool a, .slice p L.length cap, .bool c, .int .i64 l, .int .i64 u] 32)) y) := l11Some_any _ z B E _ _ L _ _ _ (H.out.later hba)
  clear hba H
  cases hok : stOk a L (c, l, u)
  · clear hc hc1 hc2
    go_enter Try.func24, Try.ntmps24
    go_wp2_with fail
    refine HOK.out.mono ?_
    rintro e w1 ⟨rfl, hb1⟩
    have hB1 := box_go (Below.refl (x.heap.size + 1) _) (by simp) hb1
    clear hb1 HOK
    obtain ⟨c0, c1, c2, c3, c4⟩ := box5 hB1
    rw [hok, Bool.and_false]
    go_wp2_with fail
    go_ret
    exact ⟨ret_bool (by unfold stHas; rw [hok]; simp), below_box hB1⟩
  cases a
  · clear hc hc1 hc2
    go_enter Try.func24, Try.ntmps24
    go_wp2_with fail
    refine HOK.out.mono ?_
    rintro e w1 ⟨rfl, hb1⟩
    have hB1 := box_go (Below.refl (x.heap.size + 1) _) (by simp) hb1
    clear hb1 HOK
    obtain ⟨c0, c1, c2, c3, c4⟩ := box5 hB1
    rw [Bool.false_and]
    go_wp2_with fail
    go_ret
    exact ⟨ret_bool (by unfold stHas; simp), below_box hB1⟩
  by_cases h3 : R.length = 3
  case neg =>
    have h3' : ¬ (R.length : Int) = 3 := by omega
    clear hc hc1 hc2
    go_enter Try.func24, Try.ntmps24
    go_wp2_with fail
    refine HOK.out.mono ?_
    rintro e w1 ⟨rfl, hb1⟩
    have hB1 := box_go (Below.refl (x.heap.size + 1) _) (by simp) hb1
    clear hb1 HOK
    obtain ⟨c0, c1, c2, c3, c4⟩ := box5 hB1
    rw [hok, Bool.and_true]
    go_wp2_with fail
    go_ret
    exact ⟨ret_bool (by unfold stHas; simp [h3]), below_box hB1⟩
  by_cases h4 : C.length = 3
  case neg =>
    have h4' : ¬ (C.length : Int) = 3 := by omega
    clear hc hc1 hc2
    rw [h3]
    rw [h3] at hmi1
    go_enter Try.func24, Try.ntmps24
    go_wp2_with fail
    refine HOK.out.mono ?_
    rintro e w1 ⟨rfl, hb1⟩
    have hB1 := box_go (Below.refl (x.heap.size + 1) _) (by simp) hb1
    clear hb1 HOK
    obtain ⟨c0, c1, c2, c3, c4⟩ := box5 hB1
    rw [hok, Bool.and_true]
    go_wp2_with fail
    go_ret
    exact ⟨ret_bool (by unfold stHas; simp [h4]), below_box hB1⟩
  have hL3 := stOk_len hok
  rw [hL3] at hc HOK
  rw [h3] at hc1
  rw [h4] at hc2
  rw [hL3, h3, h4]
  rcases hc with h0 | ⟨g, o, rfl, hBg, hgE, hEx, _, hins⟩
  · omega
  rcases hc1 with h0 | ⟨g1, o1, rfl, hBg1, hgE1, hEx1, _, hins1⟩
  · omega
  rcases hc2 with h0 | ⟨g2, o2, rfl, hBg2, hgE2, hEx2, _, hins2⟩
  · omega
  have hgx : g < x.heap.size := by omega
  have hgx1 : g1 < x.heap.size := by omega
  have hgx2 : g2 < x.heap.size := by omega
  have HX : Hid (∀ j, j < 3 → Spn x g (o + j * 3) (L.getD j noSp)) := hins
  have HX1 : Hid (∀ j, j < 3 → x.cell? ⟨g1, o1 + j, none⟩ = some (.int .i64 (R.getD j 0))) := hins1
  have HX2 : Hid (∀ j, j < 3 → x.cell? ⟨g2, o2 + j, none⟩ = some (.int .i64 (C.getD j 0))) := hins2
  have H3 : Hid (R.length = 3) := h3
  have H4 : Hid (C.length = 3) := h4
  have HO : Hid (stOk true L (c, l, u) = true) := hok
  have HLL : Hid (L.length = 3) := hL3
  clear hins hins1 hins2 h3 h4 hL3 hmi1 hmi2
  go_enter Try.func24, Try.ntmps24
  go_wp2_with fail
  refine HOK.out.mono ?_
  rintro e w1 ⟨rfl, hb1⟩
  have hB1 := box_go (Below.refl (x.heap.size + 1) _) (by simp) hb1
  clear hb1 HOK
  obtain ⟨c0, c1, c2, c3, c4⟩ := box5 hB1
  rw [hok, Bool.and_true]
  clear hok
  go_wp2_with fail
  go_loopw [7] (fun t y => ∃ k : Nat, k ≤ 3 ∧ t = .int .i64 k ∧ Below (x.heap.size + 1) (x.alloc (.cells #[.bool true, .slice (some ⟨g, o, none⟩) 3 cap, .bool c, .int .i64 l, .int .i64 u] 32)) y ∧ (∀ j, j < k → hasS (L.getD j noSp) (R.getD j 0) = true)) (fun t _ => 3 - (intOf t).toNat)
  case atStart => exact ⟨0, by omega, rfl, hB1, fun j hj => by omega⟩
  case round =>
    clear hB1 c0 c1 c2 c3 c4
    obtain ⟨k, hk, rfl, hB, hd⟩ := hrel
    have HD : Hid (∀ j, j < k → hasS (L.getD j noSp) (R.getD j 0) = true) := hd
    clear hd
    have hB0 := below_box hB
    by_cases hlt : k < 3
    · have hki : (k : Int) < 3 := by omega
      obtain ⟨q0, q1, q2⟩ := (HX.out k hlt).later hB0 hgx
      have r0 := (hB0.cell (p := ⟨g1, o1 + k, none⟩) hgx1).trans (HX1.out k hlt)
      obtain ⟨c0, c1, c2, c3, c4⟩ := box5 hB
      generalize hI : L.getD k noSp = I at q0 q1 q2
      have HII : Hid (L.getD k noSp = I) := hI
      clear hI
      generalize hN : R.getD k 0 = N at r0
      have HNN : Hid (R.getD k 0 = N) := hN
      clear hN
      obtain ⟨i0, i1, i2⟩ := I
      simp only at q0 q1 q2
      go_wp2_with fail
      have hgw : g < wr.heap.size := Nat.lt_of_lt_of_le hgx hB0.size
      have hgw1 : g1 < wr.heap.size := Nat.lt_of_lt_of_le hgx1 hB0.size
      have hxw : x.heap.size < wr.heap.size := by have := hB.size; simp at this; omega
      go_region_held3 (fun z => z.cell? ⟨x.heap.size, 1, none⟩ = some (.slice (some ⟨g, o, none⟩) 3 cap) ∧ z.cell? ⟨g, o + k * 3, none⟩ = some (.bool i0) ∧ z.cell? ⟨g, o + k * 3 + 1, none⟩ = some (.int .i64 i1) ∧ z.cell? ⟨g, o + k * 3 + 2, none⟩ = some (.int .i64 i2) ∧ z.cell? ⟨g1, o1 + k, none⟩ = some (.int .i64 N)) (first | (with_reducible assumption) | exact ⟨c1, q0, q1, q2, r0⟩ | fail) ((go_at_call 58; refine (hasS_spec i0 i1 i2 N _).mono ?_; rintro e w2 ⟨rfl, hb2⟩; have hS2 := keep5 (w := wr.drew) (o := o) (k := k) (o1 := o1) (m := x.heap.size) ⟨c1, q0, q1, q2, r0⟩ hb2 hxw hgw hgw1))
      have hB2 : Below (x.heap.size + 1) (x.alloc (.cells #[.bool true, .slice (some ⟨g, o, none⟩) 3 cap, .bool c, .int .i64 l, .int .i64 u] 32)) w2 := box_go (box_go hB (by simp) (Below.drew (Below.refl _ _))) (by simp) hb2
      clear hS2
      clear c0 c1 c2 c3 c4 q0 q1 q2 r0 hb2
      cases hs : hasS (i0, i1, i2) N
      · go_wp2_with fail
        go_ret
        refine ⟨ret_bool ?_, below_box hB2⟩
        unfold stHas
        rw [regs_no hlt (by rw [HII.out, HNN.out]; exact hs)]
        simp
      · go_wp2_with fail
        go_roundw
        case rel =>
          refine ⟨k + 1, by omega, by go_num, hB2, fun j hj => ?_⟩
          by_cases hjk : j = k
          · subst hjk; rw [HII.out, HNN.out]; exact hs
          · exact HD.out j (by omega)
        case measure => simp [intOf]; omega
    · have hki : ¬ (k : Int) < 3 := by omega
      have HR : Hid (regsHas L R = true) := regs_yes fun j hj => HD.out j (by omega)
      clear hB0 hk HD hlt
      go_wp2_with fail
      go_loopw [8] (fun t y => ∃ k : Nat, k ≤ 3 ∧ t = .int .i64 k ∧ Below (x.heap.size + 1) (x.alloc (.cells #[.bool true, .slice (some ⟨g, o, none⟩) 3 cap, .bool c, .int .i64 l, .int .i64 u] 32)) y ∧ (∀ j, j < k → hasS (c, l, u) (C.getD j 0) = true)) (fun t _ => 3 - (intOf t).toNat)
      case atStart => exact ⟨0, by omega, rfl, hB, fun j hj => by omega⟩
      case round =>
        clear hB hki
        obtain ⟨k, hk, rfl, hB, hd⟩ := hrel
        have HD : Hid (∀ j, j < k → hasS (c, l, u) (C.getD j 0) = true) := hd
        clear hd
        have hB0 := below_box hB
        by_cases hlt : k < 3
        · have hki : (k : Int) < 3 := by omega
          have r0 := (hB0.cell (p := ⟨g2, o2 + k, none⟩) hgx2).trans (HX2.out k hlt)
          obtain ⟨c0, c1, c2, c3, c4⟩ := box5 hB
          generalize hN : C.getD k 0 = N at r0
          have HNN : Hid (C.getD k 0 = N) := hN
          clear hN
          go_wp2_with fail
          have hgw2 : g2 < wr.heap.size := Nat.lt_of_lt_of_le hgx2 hB0.size
          have hxw : x.heap.size < wr.heap.size := by have := hB.size; simp at this; omega
          go_region_held3 (fun z => z.cell? ⟨x.heap.size, 2, none⟩ = some (.bool c) ∧ z.cell? ⟨x.heap.size, 3, none⟩ = some (.int .i64 l) ∧ z.cell? ⟨x.heap.size, 4, none⟩ = some (.int .i64 u) ∧ z.cell? ⟨g2, o2 + k, none⟩ = some (.int .i64 N)) (first | (with_reducible assumption) | exact ⟨c2, c3, c4, r0⟩ | fail) ((go_at_call 58; refine (hasS_spec c l u N _).mono ?_; rintro e w2 ⟨rfl, hb2⟩; have hS2 := keep4 (w := wr.drew) (k := k) (o1 := o2) (m := x.heap.size) ⟨c2, c3, c4, r0⟩ hb2 hxw hgw2))
          have hB2 : Below (x.heap.size + 1) (x.alloc (.cells #[.bool true, .slice (some ⟨g, o, none⟩) 3 cap, .bool c, .int .i64 l, .int .i64 u] 32)) w2 := box_go (box_go hB (by simp) (Below.drew (Below.refl _ _))) (by simp) hb2
          clear hS2
          clear c0 c1 c2 c3 c4 r0 hb2
          cases hs : hasS (c, l, u) N
          · go_wp2_with fail
            go_ret
            refine ⟨ret_bool ?_, below_box hB2⟩
            unfold stHas
            rw [allD_no 0 (hasS (c, l, u)) (by rw [H4.out]; exact hlt) (by rw [HNN.out]; exact hs)]
            simp
          · go_wp2_with fail
            go_roundw
            case rel =>
              refine ⟨k + 1, by omega, by go_num, hB2, fun j hj => ?_⟩
              by_cases hjk : j = k
              · subst hjk; rw [HNN.out]; exact hs
              · exact HD.out j (by omega)
            case measure => simp [intOf]; omega
        · obtain rfl : k = 3 := by omega
          have HC : Hid (C.all (hasS (c, l, u)) = true) := allD_yes 0 (hasS (c, l, u)) (by rw [H4.out]; exact HD.out)
          clear HD hB0
          go_wp2_with fail
          go_ret
          refine ⟨ret_bool ?_, below_box hB⟩
          unfold stHas
          rw [HR.out, HC.out, HO.out]
          simp [H3.out, H4.out]

end Go.Proofs.Ytbmjjmbimfdkoaa
