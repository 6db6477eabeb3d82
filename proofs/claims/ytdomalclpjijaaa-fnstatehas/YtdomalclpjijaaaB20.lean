import Derived.Test.YtdomalclpjijaaaB18
import Derived.Test.YtdomalclpjijaaaB16
import Derived.Test.YtdomalclpjijaaaB3
import Derived.Test.YtdomalclpjijaaaB19
import Derived.Test.YtdomalclpjijaaaB1
/-
  The contracts of StateHas, the program's and the model's.
-/
namespace Go.Proofs.Ytdomalclpjijaaa
open Go.RowKit
set_option linter.unusedVariables false
set_option linter.unusedSimpArgs false

def hasS (s : Sp) (n : Int) : Bool := hasF s.1 s.2.1 s.2.2 n
def regsHas (L : List Sp) (R : List Int) : Bool := (List.range 3).all fun j => hasS (L.getD j noSp) (R.getD j 0)
def stHas (a : Bool) (L : List Sp) (c : Sp) (R C : List Int) : Bool := stOk a L c && a && decide (R.length = 3) && decide (C.length = 3) && regsHas L R && C.all (hasS c)
theorem allD_yes {α : Type} {L : List α} (d : α) (f : α → Bool) (h : ∀ j, j < L.length → f (L.getD j d) = true) : L.all f = true := by
  rw [List.all_eq_true]
  intro s hs
  obtain ⟨j, hj, rfl⟩ := List.getElem_of_mem hs
  have := h j hj
  rwa [List.getD_eq_getElem?_getD, List.getElem?_eq_getElem hj] at this
theorem allD_no {α : Type} {L : List α} (d : α) (f : α → Bool) {j : Nat} (hj : j < L.length) (h : f (L.getD j d) = false) : L.all f = false := by
  rw [List.all_eq_false]
  refine ⟨L[j], List.getElem_mem hj, ?_⟩
  rw [List.getD_eq_getElem?_getD, List.getElem?_eq_getElem hj] at h
  simpa using h
theorem regs_yes {L : List Sp} {R : List Int} (h : ∀ j, j < 3 → hasS (L.getD j noSp) (R.getD j 0) = true) : regsHas L R = true := by
  unfold regsHas
  rw [List.all_eq_true]
  exact fun j hj => h j (List.mem_range.1 hj)
theorem regs_no {L : List Sp} {R : List Int} {j : Nat} (hj : j < 3) (h : hasS (L.getD j noSp) (R.getD j 0) = false) : regsHas L R = false := by
  unfold regsHas
  rw [List.all_eq_false]
  exact ⟨j, List.mem_range.2 hj, by simpa using h⟩
theorem stOk_len {L : List Sp} {c : Sp} (h : stOk true L c = true) : L.length = 3 := by
  unfold stOk at h
  rw [if_pos rfl] at h
  simp at h
  exact h.1.1
theorem hasS_impl (a : Bool) (l u n : Int) (w : World) : Calls Try.prog 45 #[.agg #[.bool a, .int .i64 l, .int .i64 u], .int .i64 n] w fun e w' => e = .returned (.bool (hasS (a, l, u) n)) ∧ Below w.heap.size w w' := has_impl a l u n w
theorem hasS_spec (a : Bool) (l u n : Int) (w : World) : Calls Try.prog 47 #[.agg #[.bool a, .int .i64 l, .int .i64 u], .int .i64 n] w fun e w' => e = .returned (.bool (hasS (a, l, u) n)) ∧ Below w.heap.size w w' := has_spec a l u n w

set_option maxHeartbeats 1000000 in
theorem l11Some_any (x : World) (z : Bool) (B E : Nat) (a : Bool) (v : Value) (L : List Sp) (c : Bool) (l u : Int) (h : SpsAt z x B E v L) :
    Calls Try.prog 46 #[.agg #[.bool a, v, .bool c, .int .i64 l, .int .i64 u]] x fun e y => e = .returned (.bool (a && stOk a L (c, l, u))) ∧ Below x.heap.size x y := by
  obtain ⟨p, cap, rfl⟩ := h.shape
  have H : Hid (SpsAt z x B E (.slice p L.length cap) L) := h
  clear h
  cases a
  · go_enter Try.func46, Try.ntmps46
    go_wp2_with fail
    go_ret
    exact ⟨ret_bool (by simp), by go_grown⟩
  · go_enter Try.func46, Try.ntmps46
    go_wp2_with fail
    refine (stOk_spec _ z B E _ _ L _ _ _ (H.out.later (by go_grown))).mono ?_
    rintro e w1 ⟨rfl, hb1⟩
    have hB : Below x.heap.size x w1 := ((Below.refl _ _).alloc (Nat.le_refl _) _).trans (hb1.mono (by simp))
    go_wp2_with fail
    go_ret
    exact ⟨ret_bool (by simp), hB⟩

theorem keep5 {w y : World} {m g o k g1 o1 : Nat} {v : Value} {i0 : Bool} {i1 i2 N : Int} (h : (fun z => z.cell? ⟨m, 1, none⟩ = some v ∧ z.cell? ⟨g, o + k * 3, none⟩ = some (.bool i0) ∧ z.cell? ⟨g, o + k * 3 + 1, none⟩ = some (.int .i64 i1) ∧ z.cell? ⟨g, o + k * 3 + 2, none⟩ = some (.int .i64 i2) ∧ z.cell? ⟨g1, o1 + k, none⟩ = some (.int .i64 N)) w) (hb : Below w.heap.size w y) (hm : m < w.heap.size) (hg : g < w.heap.size) (hg1 : g1 < w.heap.size) : (fun z => z.cell? ⟨m, 1, none⟩ = some v ∧ z.cell? ⟨g, o + k * 3, none⟩ = some (.bool i0) ∧ z.cell? ⟨g, o + k * 3 + 1, none⟩ = some (.int .i64 i1) ∧ z.cell? ⟨g, o + k * 3 + 2, none⟩ = some (.int .i64 i2) ∧ z.cell? ⟨g1, o1 + k, none⟩ = some (.int .i64 N)) y := by
  obtain ⟨c1, d0, d1, d2, e0⟩ := h
  exact ⟨(hb.cell (p := ⟨m, _, none⟩) hm).trans c1, (hb.cell (p := ⟨g, _, none⟩) hg).trans d0, (hb.cell (p := ⟨g, _, none⟩) hg).trans d1, (hb.cell (p := ⟨g, _, none⟩) hg).trans d2, (hb.cell (p := ⟨g1, _, none⟩) hg1).trans e0⟩
theorem keep4 {w y : World} {m k g1 o1 : Nat} {c : Bool} {l u N : Int} (h : (fun z => z.cell? ⟨m, 2, none⟩ = some (.bool c) ∧ z.cell? ⟨m, 3, none⟩ = some (.int .i64 l) ∧ z.cell? ⟨m, 4, none⟩ = some (.int .i64 u) ∧ z.cell? ⟨g1, o1 + k, none⟩ = some (.int .i64 N)) w) (hb : Below w.heap.size w y) (hm : m < w.heap.size) (hg1 : g1 < w.heap.size) : (fun z => z.cell? ⟨m, 2, none⟩ = some (.bool c) ∧ z.cell? ⟨m, 3, none⟩ = some (.int .i64 l) ∧ z.cell? ⟨m, 4, none⟩ = some (.int .i64 u) ∧ z.cell? ⟨g1, o1 + k, none⟩ = some (.int .i64 N)) y := by
  obtain ⟨c1, d0, d1, e0⟩ := h
  exact ⟨(hb.cell (p := ⟨m, _, none⟩) hm).trans c1, (hb.cell (p := ⟨m, _, none⟩) hm).trans d0, (hb.cell (p := ⟨m, _, none⟩) hm).trans d1, (hb.cell (p := ⟨g1, _, none⟩) hg1).trans e0⟩

set_option maxHeartbeats 2000000 in
theorem stHas_impl (x : World) (z z1 z2 : Bool) (B E B1 E1 B2 E2 : Nat) (a : Bool) (v v1 v2 : Value) (L : List Sp) (c : Bool) (l u : Int) (R C : List Int) (h : SpsAt z x B E v L) (h1 : IntsAt z1 x B1 E1 v1 R) (h2 : IntsAt z2 x B2 E2 v2 C) :
    Calls Try.prog 20 #[.agg #[.bool a, v, .bool c, .int .i64 l, .int .i64 u], v1, v2] x fun e y => e = .returned (.bool (stHas a L (c, l, u) R C)) ∧ Below x.heap.size x y := by
  obtain ⟨p, cap, rfl⟩ := h.shape
  obtain ⟨p1, cap1, rfl⟩ := h1.shape
  obtain ⟨p2, cap2, rfl⟩ := h2.shape
  have H : Hid (SpsAt z x B E (.slice p L.length cap) L) := h
  obtain ⟨_, _, hv, _, hc⟩ := h
  obtain ⟨_, _, hv1, hm1, hc1⟩ := h1
  obtain ⟨_, _, hv2, hm2, hc2⟩ := h2
  injection hv with e1 e2 e3
  injection hv1 with f1 f2 f3
  injection hv2 with g1 g2 g3
  subst e1 f1 g1
  clear e2 e3 f2 f3 g2 g3
  unfold maxLen at hm1 hm2
  have hmi1 : (R.length : Int) ≤ 9223372036854775807 := by omega
  have hmi2 : (C.length : Int) ≤ 9223372036854775807 := by omega
  clear hm1 hm2
  have hba := Below.alloc (Below.refl x.heap.size x) (Nat.le_refl _) (.cells #[.bool a, .slice p L.length cap, .bool c, .int .i64 l, .int .i64 u] 31)
  have HOK : Hid (Calls Try.prog 29 #[.agg #[.bool a, .slice p L.length cap, .bool c, .int .i64 l, .int .i64 u]] (x.alloc (.cells #[.bool a, .slice p L.length cap, .bool c, .int .i64 l, .int .i64 u] 31)) fun e y => e = .returned (.bool (stOk a L (c, l, u))) ∧ Below (x.alloc (.cells #[.bool a, .slice p L.length cap, .bool c, .int .i64 l, .int .i64 u] 31)).heap.size (x.alloc (.cells #[.bool a, .slice p L.length cap, .bool c, .int .i64 l, .int .i64 u] 31)) y) := stOk_impl _ z B E _ _ L _ _ _ (H.out.later hba)
  clear hba H
  cases hok : stOk a L (c, l, u)
  · clear hc hc1 hc2
    go_enter Try.func20, Try.ntmps20
    go_wp2_with fail
    refine HOK.out.mono ?_
    rintro e w1 ⟨rfl, hb1⟩
    have hB1 := box_go (Below.refl (x.heap.size + 1) _) (by simp) hb1
    clear hb1 HOK
    obtain ⟨c0, c1, c2, c3, c4⟩ := box5 hB1
    rw [hok]
    go_wp2_with fail
    go_ret
    exact ⟨ret_bool (by unfold stHas; rw [hok]; simp), below_box hB1⟩
  cases a
  · clear hc hc1 hc2
    go_enter Try.func20, Try.ntmps20
    go_wp2_with fail
    refine HOK.out.mono ?_
    rintro e w1 ⟨rfl, hb1⟩
    have hB1 := box_go (Below.refl (x.heap.size + 1) _) (by simp) hb1
    clear hb1 HOK
    obtain ⟨c0, c1, c2, c3, c4⟩ := box5 hB1
    rw [hok]
    go_wp2_with fail
    go_ret
    exact ⟨ret_bool (by unfold stHas; simp), below_box hB1⟩
  by_cases h3 : R.length = 3
  case neg =>
    have h3' : ¬ (R.length : Int) = 3 := by omega
    clear hc hc1 hc2
    go_enter Try.func20, Try.ntmps20
    go_wp2_with fail
    refine HOK.out.mono ?_
    rintro e w1 ⟨rfl, hb1⟩
    have hB1 := box_go (Below.refl (x.heap.size + 1) _) (by simp) hb1
    clear hb1 HOK
    obtain ⟨c0, c1, c2, c3, c4⟩ := box5 hB1
    rw [hok]
    go_wp2_with fail
    go_ret
    exact ⟨ret_bool (by unfold stHas; simp [h3]), below_box hB1⟩
  by_cases h4 : C.length = 3
  case neg =>
    have h4' : ¬ (C.length : Int) = 3 := by omega
    clear hc hc1 hc2
    rw [h3]
    rw [h3] at hmi1
    go_enter Try.func20, Try.ntmps20
    go_wp2_with fail
    refine HOK.out.mono ?_
    rintro e w1 ⟨rfl, hb1⟩
    have hB1 := box_go (Below.refl (x.heap.size + 1) _) (by simp) hb1
    clear hb1 HOK
    obtain ⟨c0, c1, c2, c3, c4⟩ := box5 hB1
    rw [hok]
    go_wp2_with fail
    go_ret
    exact ⟨ret_bool (by unfold stHas; simp [h4]), below_box hB1⟩
  have hL3 := stOk_len hok
  rw [hL3] at hc HOK
  rw [h3] at hc1
  rw [h4] at hc2
  rw [hL3, h3, h4]
  rcases hc with h0 | ⟨g, o, rfl, hBg, hgE, hEx, _, hins⟩
  · omega
  rcases hc1 with h0 | ⟨g1, o1, rfl, hBg1, hgE1, hEx1, _, hins1⟩
  · omega
  rcases hc2 with h0 | ⟨g2, o2, rfl, hBg2, hgE2, hEx2, _, hins2⟩
  · omega
  have hgx : g < x.heap.size := by omega
  have hgx1 : g1 < x.heap.size := by omega
  have hgx2 : g2 < x.heap.size := by omega
  have HX : Hid (∀ j, j < 3 → Spn x g (o + j * 3) (L.getD j noSp)) := hins
  have HX1 : Hid (∀ j, j < 3 → x.cell? ⟨g1, o1 + j, none⟩ = some (.int .i64 (R.getD j 0))) := hins1
  have HX2 : Hid (∀ j, j < 3 → x.cell? ⟨g2, o2 + j, none⟩ = some (.int .i64 (C.getD j 0))) := hins2
  have H3 : Hid (R.length = 3) := h3
  have H4 : Hid (C.length = 3) := h4
  have HO : Hid (stOk true L (c, l, u) = true) := hok
  have HLL : Hid (L.length = 3) := hL3
  clear hins hins1 hins2 h3 h4 hL3 hmi1 hmi2
  go_enter Try.func20, Try.ntmps20
  go_wp2_with fail
  refine HOK.out.mono ?_
  rintro e w1 ⟨rfl, hb1⟩
  have hB1 := box_go (Below.refl (x.heap.size + 1) _) (by simp) hb1
  clear hb1 HOK
  obtain ⟨c0, c1, c2, c3, c4⟩ := box5 hB1
  rw [hok]
  clear hok
  go_wp2_with fail
  go_loopw [31] (fun t y => ∃ k : Nat, k ≤ 3 ∧ t = .int .i64 k ∧ Below (x.heap.size + 1) (x.alloc (.cells #[.bool true, .slice (some ⟨g, o, none⟩) 3 cap, .bool c, .int .i64 l, .int .i64 u] 31)) y ∧ (∀ j, j < k → hasS (L.getD j noSp) (R.getD j 0) = true)) (fun t _ => 3 - (intOf t).toNat)
  case atStart => exact ⟨0, by omega, rfl, hB1, fun j hj => by omega⟩
  case round =>
    clear hB1 c0 c1 c2 c3 c4
    obtain ⟨k, hk, rfl, hB, hd⟩ := hrel
    have HD : Hid (∀ j, j < k → hasS (L.getD j noSp) (R.getD j 0) = true) := hd
    clear hd
    have hB0 := below_box hB
    by_cases hlt : k < 3
    · have hki : (k : Int) < 3 := by omega
      obtain ⟨q0, q1, q2⟩ := (HX.out k hlt).later hB0 hgx
      have r0 := (hB0.cell (p := ⟨g1, o1 + k, none⟩) hgx1).trans (HX1.out k hlt)
      obtain ⟨c0, c1, c2, c3, c4⟩ := box5 hB
      generalize hI : L.getD k noSp = I at q0 q1 q2
      have HII : Hid (L.getD k noSp = I) := hI
      clear hI
      generalize hN : R.getD k 0 = N at r0
      have HNN : Hid (R.getD k 0 = N) := hN
      clear hN
      obtain ⟨i0, i1, i2⟩ := I
      simp only at q0 q1 q2
      go_wp2_with fail
      refine (hasS_impl _ _ _ _ _).mono ?_
      rintro e w2 ⟨rfl, hb2⟩
      have hB2 := box_go hB (by simp) hb2
      clear c0 c1 c2 c3 c4 q0 q1 q2 r0 hb2
      cases hs : hasS (i0, i1, i2) N
      · go_wp2_with fail
        go_ret
        refine ⟨ret_bool ?_, below_box hB2⟩
        unfold stHas
        rw [regs_no hlt (by rw [HII.out, HNN.out]; exact hs)]
        simp
      · go_wp2_with fail
        go_roundw
        case rel =>
          refine ⟨k + 1, by omega, by go_num, hB2, fun j hj => ?_⟩
          by_cases hjk : j = k
          · subst hjk; rw [HII.out, HNN.out]; exact hs
          · exact HD.out j (by omega)
        case measure => simp [intOf]; omega
    · have hki : ¬ (k : Int) < 3 := by omega
      have HR : Hid (regsHas L R = true) := regs_yes fun j hj => HD.out j (by omega)
      clear hB0 hk HD hlt
      go_wp2_with fail
      go_loopw [47] (fun t y => ∃ k : Nat, k ≤ 3 ∧ t = .int .i64 k ∧ Below (x.heap.size + 1) (x.alloc (.cells #[.bool true, .slice (some ⟨g, o, none⟩) 3 cap, .bool c, .int .i64 l, .int .i64 u] 31)) y ∧ (∀ j, j < k → hasS (c, l, u) (C.getD j 0) = true)) (fun t _ => 3 - (intOf t).toNat)
      case atStart => exact ⟨0, by omega, rfl, hB, fun j hj => by omega⟩
      case round =>
        clear hB hki
        obtain ⟨k, hk, rfl, hB, hd⟩ := hrel
        have HD : Hid (∀ j, j < k → hasS (c, l, u) (C.getD j 0) = true) := hd
        clear hd
        have hB0 := below_box hB
        by_cases hlt : k < 3
        · have hki : (k : Int) < 3 := by omega
          have r0 := (hB0.cell (p := ⟨g2, o2 + k, none⟩) hgx2).trans (HX2.out k hlt)
          obtain ⟨c0, c1, c2, c3, c4⟩ := box5 hB
          generalize hN : C.getD k 0 = N at r0
          have HNN : Hid (C.getD k 0 = N) := hN
          clear hN
          go_wp2_with fail
          refine (hasS_impl _ _ _ _ _).mono ?_
          rintro e w2 ⟨rfl, hb2⟩
          have hB2 := box_go hB (by simp) hb2
          clear c0 c1 c2 c3 c4 r0 hb2
          cases hs : hasS (c, l, u) N
          · go_wp2_with fail
            go_ret
            refine ⟨ret_bool ?_, below_box hB2⟩
            unfold stHas
            rw [allD_no 0 (hasS (c, l, u)) (by rw [H4.out]; exact hlt) (by rw [HNN.out]; exact hs)]
            simp
          · go_wp2_with fail
            go_roundw
            case rel =>
              refine ⟨k + 1, by omega, by go_num, hB2, fun j hj => ?_⟩
              by_cases hjk : j = k
              · subst hjk; rw [HNN.out]; exact hs
              · exact HD.out j (by omega)
            case measure => simp [intOf]; omega
        · obtain rfl : k = 3 := by omega
          have HC : Hid (C.all (hasS (c, l, u)) = true) := allD_yes 0 (hasS (c, l, u)) (by rw [H4.out]; exact HD.out)
          clear HD hB0
          go_wp2_with fail
          go_ret
          refine ⟨ret_bool ?_, below_box hB⟩
          unfold stHas
          rw [HR.out, HC.out, HO.out]
          simp [H3.out, H4.out]

set_option maxHeartbeats 2000000 in
theorem stHas_spec (x : World) (z z1 z2 : Bool) (B E B1 E1 B2 E2 : Nat) (a : Bool) (v v1 v2 : Value) (L : List Sp) (c : Bool) (l u : Int) (R C : List Int) (h : SpsAt z x B E v L) (h1 : IntsAt z1 x B1 E1 v1 R) (h2 : IntsAt z2 x B2 E2 v2 C) :
    Calls Try.prog 21 #[.agg #[.bool a, v, .bool c, .int .i64 l, .int .i64 u], v1, v2] x fun e y => e = .returned (.bool (stHas a L (c, l, u) R C)) ∧ Below x.heap.size x y := by
  obtain ⟨p, cap, rfl⟩ := h.shape
  obtain ⟨p1, cap1, rfl⟩ := h1.shape
  obtain ⟨p2, cap2, rfl⟩ := h2.shape
  have H : Hid (SpsAt z x B E (.slice p L.length cap) L) := h
  obtain ⟨_, _, hv, _, hc⟩ := h
  obtain ⟨_, _, hv1, hm1, hc1⟩ := h1
  obtain ⟨_, _, hv2, hm2, hc2⟩ := h2
  injection hv with e1 e2 e3
  injection hv1 with f1 f2 f3
  injection hv2 with g1 g2 g3
  subst e1 f1 g1
  clear e2 e3 f2 f3 g2 g3
  unfold maxLen at hm1 hm2
  have hmi1 : (R.length : Int) ≤ 9223372036854775807 := by omega
  have hmi2 : (C.length : Int) ≤ 9223372036854775807 := by omega
  clear hm1 hm2
  have hba := Below.alloc (Below.refl x.heap.size x) (Nat.le_refl _) (.cells #[.bool a, .slice p L.length cap, .bool c, .int .i64 l, .int .i64 u] 31)
  have HOK : Hid (Calls Try.prog 46 #[.agg #[.bool a, .slice p L.length cap, .bool c, .int .i64 l, .int .i64 u]] (x.alloc (.cells #[.bool a, .slice p L.length cap, .bool c, .int .i64 l, .int .i64 u] 31)) fun e y => e = .returned (.bool (a && stOk a L (c, l, u))) ∧ Below (x.alloc (.cells #[.bool a, .slice p L.length cap, .bool c, .int .i64 l, .int .i64 u] 31)).heap.size (x.alloc (.cells #[.bool a, .slice p L.length cap, .bool c, .int .i64 l, .int .i64 u] 31)) y) := l11Some_any _ z B E _ _ L _ _ _ (H.out.later hba)
  clear hba H
  cases hok : stOk a L (c, l, u)
  · clear hc hc1 hc2
    go_enter Try.func21, Try.ntmps21
    go_wp2_with fail
    refine HOK.out.mono ?_
    rintro e w1 ⟨rfl, hb1⟩
    have hB1 := box_go (Below.refl (x.heap.size + 1) _) (by simp) hb1
    clear hb1 HOK
    obtain ⟨c0, c1, c2, c3, c4⟩ := box5 hB1
    rw [hok, Bool.and_false]
    go_wp2_with fail
    go_ret
    exact ⟨ret_bool (by unfold stHas; rw [hok]; simp), below_box hB1⟩
  cases a
  · clear hc hc1 hc2
    go_enter Try.func21, Try.ntmps21
    go_wp2_with fail
    refine HOK.out.mono ?_
    rintro e w1 ⟨rfl, hb1⟩
    have hB1 := box_go (Below.refl (x.heap.size + 1) _) (by simp) hb1
    clear hb1 HOK
    obtain ⟨c0, c1, c2, c3, c4⟩ := box5 hB1
    rw [Bool.false_and]
    go_wp2_with fail
    go_ret
    exact ⟨ret_bool (by unfold stHas; simp), below_box hB1⟩
  by_cases h3 : R.length = 3
  case neg =>
    have h3' : ¬ (R.length : Int) = 3 := by omega
    clear hc hc1 hc2
    go_enter Try.func21, Try.ntmps21
    go_wp2_with fail
    refine HOK.out.mono ?_
    rintro e w1 ⟨rfl, hb1⟩
    have hB1 := box_go (Below.refl (x.heap.size + 1) _) (by simp) hb1
    clear hb1 HOK
    obtain ⟨c0, c1, c2, c3, c4⟩ := box5 hB1
    rw [hok, Bool.and_true]
    go_wp2_with fail
    go_ret
    exact ⟨ret_bool (by unfold stHas; simp [h3]), below_box hB1⟩
  by_cases h4 : C.length = 3
  case neg =>
    have h4' : ¬ (C.length : Int) = 3 := by omega
    clear hc hc1 hc2
    rw [h3]
    rw [h3] at hmi1
    go_enter Try.func21, Try.ntmps21
    go_wp2_with fail
    refine HOK.out.mono ?_
    rintro e w1 ⟨rfl, hb1⟩
    have hB1 := box_go (Below.refl (x.heap.size + 1) _) (by simp) hb1
    clear hb1 HOK
    obtain ⟨c0, c1, c2, c3, c4⟩ := box5 hB1
    rw [hok, Bool.and_true]
    go_wp2_with fail
    go_ret
    exact ⟨ret_bool (by unfold stHas; simp [h4]), below_box hB1⟩
  have hL3 := stOk_len hok
  rw [hL3] at hc HOK
  rw [h3] at hc1
  rw [h4] at hc2
  rw [hL3, h3, h4]
  rcases hc with h0 | ⟨g, o, rfl, hBg, hgE, hEx, _, hins⟩
  · omega
  rcases hc1 with h0 | ⟨g1, o1, rfl, hBg1, hgE1, hEx1, _, hins1⟩
  · omega
  rcases hc2 with h0 | ⟨g2, o2, rfl, hBg2, hgE2, hEx2, _, hins2⟩
  · omega
  have hgx : g < x.heap.size := by omega
  have hgx1 : g1 < x.heap.size := by omega
  have hgx2 : g2 < x.heap.size := by omega
  have HX : Hid (∀ j, j < 3 → Spn x g (o + j * 3) (L.getD j noSp)) := hins
  have HX1 : Hid (∀ j, j < 3 → x.cell? ⟨g1, o1 + j, none⟩ = some (.int .i64 (R.getD j 0))) := hins1
  have HX2 : Hid (∀ j, j < 3 → x.cell? ⟨g2, o2 + j, none⟩ = some (.int .i64 (C.getD j 0))) := hins2
  have H3 : Hid (R.length = 3) := h3
  have H4 : Hid (C.length = 3) := h4
  have HO : Hid (stOk true L (c, l, u) = true) := hok
  have HLL : Hid (L.length = 3) := hL3
  clear hins hins1 hins2 h3 h4 hL3 hmi1 hmi2
  go_enter Try.func21, Try.ntmps21
  go_wp2_with fail
  refine HOK.out.mono ?_
  rintro e w1 ⟨rfl, hb1⟩
  have hB1 := box_go (Below.refl (x.heap.size + 1) _) (by simp) hb1
  clear hb1 HOK
  obtain ⟨c0, c1, c2, c3, c4⟩ := box5 hB1
  rw [hok, Bool.and_true]
  clear hok
  go_wp2_with fail
  go_loopw [7] (fun t y => ∃ k : Nat, k ≤ 3 ∧ t = .int .i64 k ∧ Below (x.heap.size + 1) (x.alloc (.cells #[.bool true, .slice (some ⟨g, o, none⟩) 3 cap, .bool c, .int .i64 l, .int .i64 u] 31)) y ∧ (∀ j, j < k → hasS (L.getD j noSp) (R.getD j 0) = true)) (fun t _ => 3 - (intOf t).toNat)
  case atStart => exact ⟨0, by omega, rfl, hB1, fun j hj => by omega⟩
  case round =>
    clear hB1 c0 c1 c2 c3 c4
    obtain ⟨k, hk, rfl, hB, hd⟩ := hrel
    have HD : Hid (∀ j, j < k → hasS (L.getD j noSp) (R.getD j 0) = true) := hd
    clear hd
    have hB0 := below_box hB
    by_cases hlt : k < 3
    · have hki : (k : Int) < 3 := by omega
      obtain ⟨q0, q1, q2⟩ := (HX.out k hlt).later hB0 hgx
      have r0 := (hB0.cell (p := ⟨g1, o1 + k, none⟩) hgx1).trans (HX1.out k hlt)
      obtain ⟨c0, c1, c2, c3, c4⟩ := box5 hB
      generalize hI : L.getD k noSp = I at q0 q1 q2
      have HII : Hid (L.getD k noSp = I) := hI
      clear hI
      generalize hN : R.getD k 0 = N at r0
      have HNN : Hid (R.getD k 0 = N) := hN
      clear hN
      obtain ⟨i0, i1, i2⟩ := I
      simp only at q0 q1 q2
      go_wp2_with fail
      have hgw : g < wr.heap.size := Nat.lt_of_lt_of_le hgx hB0.size
      have hgw1 : g1 < wr.heap.size := Nat.lt_of_lt_of_le hgx1 hB0.size
      have hxw : x.heap.size < wr.heap.size := by have := hB.size; simp at this; omega
      go_region_held3 (fun z => z.cell? ⟨x.heap.size, 1, none⟩ = some (.slice (some ⟨g, o, none⟩) 3 cap) ∧ z.cell? ⟨g, o + k * 3, none⟩ = some (.bool i0) ∧ z.cell? ⟨g, o + k * 3 + 1, none⟩ = some (.int .i64 i1) ∧ z.cell? ⟨g, o + k * 3 + 2, none⟩ = some (.int .i64 i2) ∧ z.cell? ⟨g1, o1 + k, none⟩ = some (.int .i64 N)) (first | (with_reducible assumption) | exact ⟨c1, q0, q1, q2, r0⟩ | fail) ((go_at_call 47; refine (hasS_spec i0 i1 i2 N _).mono ?_; rintro e w2 ⟨rfl, hb2⟩; have hS2 := keep5 (w := wr.drew) (o := o) (k := k) (o1 := o1) (m := x.heap.size) ⟨c1, q0, q1, q2, r0⟩ hb2 hxw hgw hgw1))
      have hB2 : Below (x.heap.size + 1) (x.alloc (.cells #[.bool true, .slice (some ⟨g, o, none⟩) 3 cap, .bool c, .int .i64 l, .int .i64 u] 31)) w2 := box_go (box_go hB (by simp) (Below.drew (Below.refl _ _))) (by simp) hb2
      clear hS2
      clear c0 c1 c2 c3 c4 q0 q1 q2 r0 hb2
      cases hs : hasS (i0, i1, i2) N
      · go_wp2_with fail
        go_ret
        refine ⟨ret_bool ?_, below_box hB2⟩
        unfold stHas
        rw [regs_no hlt (by rw [HII.out, HNN.out]; exact hs)]
        simp
      · go_wp2_with fail
        go_roundw
        case rel =>
          refine ⟨k + 1, by omega, by go_num, hB2, fun j hj => ?_⟩
          by_cases hjk : j = k
          · subst hjk; rw [HII.out, HNN.out]; exact hs
          · exact HD.out j (by omega)
        case measure => simp [intOf]; omega
    · have hki : ¬ (k : Int) < 3 := by omega
      have HR : Hid (regsHas L R = true) := regs_yes fun j hj => HD.out j (by omega)
      clear hB0 hk HD hlt
      go_wp2_with fail
      go_loopw [8] (fun t y => ∃ k : Nat, k ≤ 3 ∧ t = .int .i64 k ∧ Below (x.heap.size + 1) (x.alloc (.cells #[.bool true, .slice (some ⟨g, o, none⟩) 3 cap, .bool c, .int .i64 l, .int .i64 u] 31)) y ∧ (∀ j, j < k → hasS (c, l, u) (C.getD j 0) = true)) (fun t _ => 3 - (intOf t).toNat)
      case atStart => exact ⟨0, by omega, rfl, hB, fun j hj => by omega⟩
      case round =>
        clear hB hki
        obtain ⟨k, hk, rfl, hB, hd⟩ := hrel
        have HD : Hid (∀ j, j < k → hasS (c, l, u) (C.getD j 0) = true) := hd
        clear hd
        have hB0 := below_box hB
        by_cases hlt : k < 3
        · have hki : (k : Int) < 3 := by omega
          have r0 := (hB0.cell (p := ⟨g2, o2 + k, none⟩) hgx2).trans (HX2.out k hlt)
          obtain ⟨c0, c1, c2, c3, c4⟩ := box5 hB
          generalize hN : C.getD k 0 = N at r0
          have HNN : Hid (C.getD k 0 = N) := hN
          clear hN
          go_wp2_with fail
          have hgw2 : g2 < wr.heap.size := Nat.lt_of_lt_of_le hgx2 hB0.size
          have hxw : x.heap.size < wr.heap.size := by have := hB.size; simp at this; omega
          go_region_held3 (fun z => z.cell? ⟨x.heap.size, 2, none⟩ = some (.bool c) ∧ z.cell? ⟨x.heap.size, 3, none⟩ = some (.int .i64 l) ∧ z.cell? ⟨x.heap.size, 4, none⟩ = some (.int .i64 u) ∧ z.cell? ⟨g2, o2 + k, none⟩ = some (.int .i64 N)) (first | (with_reducible assumption) | exact ⟨c2, c3, c4, r0⟩ | fail) ((go_at_call 47; refine (hasS_spec c l u N _).mono ?_; rintro e w2 ⟨rfl, hb2⟩; have hS2 := keep4 (w := wr.drew) (k := k) (o1 := o2) (m := x.heap.size) ⟨c2, c3, c4, r0⟩ hb2 hxw hgw2))
          have hB2 : Below (x.heap.size + 1) (x.alloc (.cells #[.bool true, .slice (some ⟨g, o, none⟩) 3 cap, .bool c, .int .i64 l, .int .i64 u] 31)) w2 := box_go (box_go hB (by simp) (Below.drew (Below.refl _ _))) (by simp) hb2
          clear hS2
          clear c0 c1 c2 c3 c4 r0 hb2
          cases hs : hasS (c, l, u) N
          · go_wp2_with fail
            go_ret
            refine ⟨ret_bool ?_, below_box hB2⟩
            unfold stHas
            rw [allD_no 0 (hasS (c, l, u)) (by rw [H4.out]; exact hlt) (by rw [HNN.out]; exact hs)]
            simp
          · go_wp2_with fail
            go_roundw
            case rel =>
              refine ⟨k + 1, by omega, by go_num, hB2, fun j hj => ?_⟩
              by_cases hjk : j = k
              · subst hjk; rw [HNN.out]; exact hs
              · exact HD.out j (by omega)
            case measure => simp [intOf]; omega
        · obtain rfl : k = 3 := by omega
          have HC : Hid (C.all (hasS (c, l, u)) = true) := allD_yes 0 (hasS (c, l, u)) (by rw [H4.out]; exact HD.out)
          clear HD hB0
          go_wp2_with fail
          go_ret
          refine ⟨ret_bool ?_, below_box hB⟩
          unfold stHas
          rw [HR.out, HC.out, HO.out]
          simp [H3.out, H4.out]

end Go.Proofs.Ytdomalclpjijaaa

/-
  What is of a state is of what is above it: plain facts.
-/
namespace Go.Proofs.Ytdomalclpjijaaa
open Go.RowKit
set_option linter.unusedVariables false
set_option linter.unusedSimpArgs false

theorem hasS_up {s t : Sp} (hs : someF s = true) (ht : someF t = true) (hin : inS s t = true) {n : Int} (h : hasS s n = true) : hasS t n = true := by
  obtain ⟨l, u, rfl, bs⟩ := some_form hs
  obtain ⟨m, v, rfl, bt⟩ := some_form ht
  rw [inS_of bs bt] at hin
  unfold hasS hasF at h ⊢
  simp [okw bs.1 bs.2.1 bs.2.2, okw bt.1 bt.2.1 bt.2.2] at h hin ⊢
  omega
theorem has_ok {a : Bool} {L : List Sp} {c : Sp} {R C : List Int} (h : stHas a L c R C = true) : stOk a L c = true := by
  unfold stHas at h
  simp only [Bool.and_eq_true] at h
  exact h.1.1.1.1.1
theorem has_up {a b : Bool} {L M : List Sp} {c d : Sp} {R C : List Int} (h2 : stOk b M d = true) (h : stHas a L c R C = true) (hin : stIn a L c b M d = true) : stHas b M d R C = true := by
  have h1 := has_ok h
  rcases ok_form h1 with ⟨rfl, rfl, rfl⟩ | ⟨rfl, s0, s1, s2, rfl, p0, p1, p2, p3⟩
  · unfold stHas at h; simp at h
  rcases ok_form h2 with ⟨rfl, rfl, rfl⟩ | ⟨rfl, t0, t1, t2, rfl, q0, q1, q2, q3⟩
  · rw [inst_to_none h1] at hin; cases hin
  rw [inst_some h1 h2] at hin
  simp only [Bool.and_eq_true] at hin
  unfold stHas at h ⊢
  rw [h1] at h
  rw [h2]
  simp only [Bool.and_eq_true, Bool.true_and, decide_eq_true_eq] at h ⊢
  obtain ⟨⟨⟨hR, hC⟩, hr⟩, hc⟩ := h
  refine ⟨⟨⟨hR, hC⟩, ?_⟩, ?_⟩
  · unfold regsHas at hr ⊢
    simp [List.range_succ] at hr ⊢
    exact ⟨hasS_up p0 q0 hin.1.1.1 hr.1, hasS_up p1 q1 hin.1.1.2 hr.2.1, hasS_up p2 q2 hin.1.2 hr.2.2⟩
  · rw [List.all_eq_true] at hc ⊢
    exact fun n hn => hasS_up p3 q3 hin.2 (hc n hn)
theorem has_join_l {a b e : Bool} {L M N : List Sp} {c d f : Sp} {R C : List Int} (h2 : stOk b M d = true) (h : stHas a L c R C = true) (hj : stBoth false a L c b M d = (e, N, f)) : stHas e N f R C = true :=
  have F := stJ_facts (has_ok h) h2 hj
  has_up F.1 h F.2.1
theorem has_join_r {a b e : Bool} {L M N : List Sp} {c d f : Sp} {R C : List Int} (h2 : stOk b M d = true) (h : stHas a L c R C = true) (hj : stBoth false b M d a L c = (e, N, f)) : stHas e N f R C = true :=
  have F := stJ_facts h2 (has_ok h) hj
  has_up F.1 h F.2.2.1
theorem has_wide_l {a b e : Bool} {L M N : List Sp} {c d f : Sp} {R C : List Int} (h2 : stOk b M d = true) (h : stHas a L c R C = true) (hj : stBoth true a L c b M d = (e, N, f)) : stHas e N f R C = true := by
  obtain ⟨⟨g, K, k⟩, hk⟩ : ∃ r, stJ a L c b M d = r := ⟨_, rfl⟩
  have F := stW_facts (has_ok h) h2 hj hk
  exact has_up F.1 (has_join_l h2 h hk) F.2.1
theorem has_wide_r {a b e : Bool} {L M N : List Sp} {c d f : Sp} {R C : List Int} (h2 : stOk b M d = true) (h : stHas a L c R C = true) (hj : stBoth true b M d a L c = (e, N, f)) : stHas e N f R C = true := by
  obtain ⟨⟨g, K, k⟩, hk⟩ : ∃ r, stJ b M d a L c = r := ⟨_, rfl⟩
  have F := stW_facts h2 (has_ok h) hj hk
  exact has_up F.1 (has_join_r h2 h hk) F.2.1
end Go.Proofs.Ytdomalclpjijaaa

/-
  The contracts of the reader of codes (open, pick): it hands back a number in its range and turns nothing but its own place.
-/
namespace Go.Proofs.Ytdomalclpjijaaa
open Go.RowKit
set_option linter.unusedVariables false
set_option linter.unusedSimpArgs false

/-- what is told of a row of bytes that came in -/
def IsRow (w : World) (a : Option Addr) (len cap : Nat) (zs : List Int) : Prop :=
  (a = none ∧ len = 0 ∧ cap = 0 ∧ zs = []) ∨
  ∃ x, a = some x ∧ len ≤ cap ∧ cap ≤ maxLen ∧ zs.length = cap ∧ (∀ i, i < zs.length → w.cell? (x.add i) = some (.int .u8 (zs.getD i 0))) ∧ ∀ n ∈ zs, (Lit.int .u8 n).wf = true

/-- a reader lies at block r: its slice, its place (at most B) -/
structure Rd (x : World) (r B : Nat) : Prop where
  it : ∃ (a : Option Addr) (len cap : Nat) (p : Int), x.cell? ⟨r, 0, none⟩ = some (.slice a len cap) ∧ x.cell? ⟨r, 1, none⟩ = some (.int .i64 p) ∧ 0 ≤ p ∧ p ≤ B ∧ len ≤ 2000 ∧ x.frozen? ⟨r, 1, none⟩ = false ∧ r < x.heap.size ∧
    (len = 0 ∨ ∃ (b off : Nat) (zs : List Int), a = some ⟨b, off, none⟩ ∧ b < r ∧ len ≤ zs.length ∧ ∀ j, j < len → x.cell? ⟨b, off + j, none⟩ = some (.int .u8 (zs.getD j 0)) ∧ 0 ≤ zs.getD j 0 ∧ zs.getD j 0 ≤ 255)

/-- nothing has turned but the reader's own place; new memory may have been laid -/
structure Drawn (r B : Nat) (x y : World) : Prop where
  size : x.heap.size ≤ y.heap.size
  cell : ∀ b o, b ≠ r → b < x.heap.size → y.cell? ⟨b, o, none⟩ = x.cell? ⟨b, o, none⟩
  frozen : ∀ b o, b ≠ r → b < x.heap.size → y.frozen? ⟨b, o, none⟩ = x.frozen? ⟨b, o, none⟩
  below : Below r x y
  rd : Rd y r B
  blk : ∀ b, b ≠ r → b < x.heap.size → y.heap[b]? = x.heap[b]?

theorem Drawn.drewOne {r B : Nat} {x y : World} (h : Drawn r B x y) : Drawn r B x y.drew :=
  ⟨h.size, h.cell, h.frozen, h.below.drew, ⟨h.rd.it⟩, h.blk⟩
theorem Drawn.drewN {r B : Nat} {x y : World} (h : Drawn r B x y) (n : Nat) : Drawn r B x (y.drewN n) := by
  induction n with
  | zero => exact h
  | succ n ih => exact ih.drewOne
theorem drawn_set {x : World} {r B : Nat} {p : Int} (h : Rd x r B) (hp : x.cell? ⟨r, 1, none⟩ = some (.int .i64 p)) : Drawn r (B + 1) x (x.setCell ⟨r, 1, none⟩ (.int .i64 (p + 1))) := by
  obtain ⟨a, len, cap, p', c0, c1, p0, p1, hl, hf, hr, hrow⟩ := h.it
  obtain rfl : p' = p := by rw [hp] at c1; simpa using c1.symm
  have hb : Below r x (x.setCell ⟨r, 1, none⟩ (.int .i64 (p' + 1))) := (Below.refl r x).setCell (p := ⟨r, 1, none⟩) (Nat.le_refl _) _
  have hz : (x.setCell ⟨r, 1, none⟩ (.int .i64 (p' + 1))).heap.size = x.heap.size := by simp
  refine ⟨by omega, ?_, ?_, hb, ⟨a, len, cap, p' + 1, ?_, ?_, by omega, by omega, hl, ?_, by omega, ?_⟩, fun b hne _ => Below.heap_setCell x ⟨r, 1, none⟩ _ b hne⟩
  · intro b o hne _
    simp [go_sem, hne]
  · intro b o hne _
    simp [go_sem, hne]
  · simp [go_sem, c0]
  · simp [go_sem, c1]
  · simp [go_sem, hf]
  · rcases hrow with h0 | ⟨b, off, zs, e, hlt, hz', hcell⟩
    · exact .inl h0
    · refine .inr ⟨b, off, zs, e, hlt, hz', fun j hj => ?_⟩
      obtain ⟨e1, e2, e3⟩ := hcell j hj
      exact ⟨(hb.cell (p := ⟨b, off + j, none⟩) hlt).trans e1, e2, e3⟩

theorem xor_nonneg (a b : Int) (h1 : 0 ≤ a) (h2 : a < 4611686018427387904) (h3 : 0 ≤ b) (h4 : b < 4611686018427387904) : 0 ≤ bits .xor .i64 a b := by
  obtain ⟨A, rfl⟩ := Int.eq_ofNat_of_zero_le h1
  obtain ⟨B, rfl⟩ := Int.eq_ofNat_of_zero_le h3
  have hx : A ^^^ B < 2 ^ 62 := Nat.xor_lt_two_pow (by omega) (by omega)
  have e1 : (BitVec.ofInt 64 (A : Int)).toNat = A := by
    rw [BitVec.ofInt_natCast, BitVec.toNat_ofNat]; exact Nat.mod_eq_of_lt (by omega)
  have e2 : (BitVec.ofInt 64 (B : Int)).toNat = B := by
    rw [BitVec.ofInt_natCast, BitVec.toNat_ofNat]; exact Nat.mod_eq_of_lt (by omega)
  show 0 ≤ IntKind.i64.wrap ((BitVec.ofInt 64 (A : Int) ^^^ BitVec.ofInt 64 (B : Int)).toNat : Int)
  rw [BitVec.toNat_xor, e1, e2, IntKind.wrap_i64]
  omega
theorem mix_nonneg (z y k d : Int) (z0 : 0 ≤ z) (z1 : z ≤ 255) (y0 : 0 ≤ y) (y1 : y ≤ 255) (k0 : 0 ≤ k) (k1 : k ≤ 100000) (d0 : 0 ≤ d) (d1 : d ≤ k) :
    0 ≤ bits .xor .i64 (wrap64 (z * 131 + y * 1117 + k * 29 + wrap64 (wrap64 d * 53))) (wrap64 ((wrap64 (z * 131 + y * 1117 + k * 29 + wrap64 (wrap64 d * 53))).tdiv 64)) := by
  have e : wrap64 (z * 131 + y * 1117 + k * 29 + wrap64 (wrap64 d * 53)) = z * 131 + y * 1117 + k * 29 + d * 53 := by unfold wrap64; omega
  rw [e]
  have e2 : (z * 131 + y * 1117 + k * 29 + d * 53).tdiv 64 = (z * 131 + y * 1117 + k * 29 + d * 53) / 64 := Int.tdiv_eq_ediv_of_nonneg (by omega)
  rw [e2]
  have e3 : wrap64 ((z * 131 + y * 1117 + k * 29 + d * 53) / 64) = (z * 131 + y * 1117 + k * 29 + d * 53) / 64 := by unfold wrap64; omega
  rw [e3]
  exact xor_nonneg _ _ (by omega) (by omega) (by omega) (by omega)

set_option maxHeartbeats 1000000 in
theorem pick_any (r B : Nat) (n : Int) (x : World) (h : Rd x r B) (hB : B ≤ 100000) (hn : n ≤ 100000) :
    Calls Try.prog 44 #[.pointer (some ⟨r, 0, none⟩), .int .i64 n] x fun e y => ∃ v : Int, e = .returned (.int .i64 v) ∧ 0 ≤ v ∧ (v < n ∨ v = 0) ∧ Drawn r (B + 1) x y := by
  obtain ⟨a, len, cap, p, c0, c1, p0, p1, hl, hf, hr, hrow⟩ := h.it
  have hD := drawn_set h c1
  by_cases h1 : n < 1
  · go_enter Try.func44, Try.ntmps44
    go_wp2
    go_ret
    exact ⟨0, rfl, by omega, .inr rfl, hD⟩
  · by_cases h0 : len = 0
    · subst h0
      clear hrow
      go_enter Try.func44, Try.ntmps44
      go_wp2
      go_ret
      exact ⟨0, rfl, by omega, .inr rfl, hD⟩
    · have hlen : ((len : Int) == 0) = false := by simp [h0]
      rcases hrow with hrow | ⟨b, off, zs, rfl, hb, hz, hcell⟩
      · omega
      have hne : ¬ b = r := by omega
      obtain ⟨k, rfl⟩ := Int.eq_ofNat_of_zero_le p0
      by_cases hk : k < len
      · obtain ⟨z, z0, z1, cz⟩ : ∃ z : Int, 0 ≤ z ∧ z ≤ 255 ∧ x.cell? ⟨b, off + k, none⟩ = some (.int .u8 z) := ⟨zs.getD k 0, (hcell k hk).2.1, (hcell k hk).2.2, (hcell k hk).1⟩
        have hki : (k : Int) < (len : Int) := by omega
        clear hcell hz hlen
        go_enter Try.func44, Try.ntmps44
        go_wp2
        go_ret
        exact ⟨z % n, rfl, Int.emod_nonneg _ (by omega), .inl (Int.emod_lt_of_pos _ (by omega)), hD⟩
      · obtain ⟨z, z0, z1, cz⟩ : ∃ z : Int, 0 ≤ z ∧ z ≤ 255 ∧ x.cell? ⟨b, off + k % len, none⟩ = some (.int .u8 z) := ⟨_, (hcell _ (Nat.mod_lt k (by omega))).2.1, (hcell _ (Nat.mod_lt k (by omega))).2.2, (hcell _ (Nat.mod_lt k (by omega))).1⟩
        obtain ⟨y, y0, y1, cy⟩ : ∃ z : Int, 0 ≤ z ∧ z ≤ 255 ∧ x.cell? ⟨b, off + (k * 7 + 3) % len, none⟩ = some (.int .u8 z) := ⟨_, (hcell _ (Nat.mod_lt (k * 7 + 3) (by omega))).2.1, (hcell _ (Nat.mod_lt (k * 7 + 3) (by omega))).2.2, (hcell _ (Nat.mod_lt (k * 7 + 3) (by omega))).1⟩
        have hki : ¬ (k : Int) < (len : Int) := by omega
        have hlp : (0 : Int) < (len : Int) := by omega
        have t1 : (k : Int).tmod (len : Int) = (k : Int) % (len : Int) := Int.tmod_eq_emod_of_nonneg (by omega)
        have t2 : ((k : Int) * 7 + 3).tmod (len : Int) = ((k : Int) * 7 + 3) % (len : Int) := Int.tmod_eq_emod_of_nonneg (by omega)
        have t3 : (k : Int).tdiv (len : Int) = (k : Int) / (len : Int) := Int.tdiv_eq_ediv_of_nonneg (by omega)
        have q1 : 0 ≤ (k : Int).tmod (len : Int) := by rw [t1]; exact Int.emod_nonneg _ (by omega)
        have q2 : (k : Int).tmod (len : Int) < (len : Int) := by rw [t1]; exact Int.emod_lt_of_pos _ hlp
        have q3 : 0 ≤ ((k : Int) * 7 + 3).tmod (len : Int) := by rw [t2]; exact Int.emod_nonneg _ (by omega)
        have q4 : ((k : Int) * 7 + 3).tmod (len : Int) < (len : Int) := by rw [t2]; exact Int.emod_lt_of_pos _ hlp
        have q5 : 0 ≤ (k : Int).tdiv (len : Int) := by rw [t3]; exact Int.ediv_nonneg (by omega) (by omega)
        have q6 : (k : Int).tdiv (len : Int) ≤ (k : Int) := by rw [t3]; exact Int.ediv_le_self _ (by omega)
        have e1 : ((k : Int).tmod (len : Int)).toNat = k % len := by rw [t1, ← Int.natCast_emod]; rfl
        have e2 : (((k : Int) * 7 + 3).tmod (len : Int)).toNat = (k * 7 + 3) % len := by rw [t2, show (k : Int) * 7 + 3 = ((k * 7 + 3 : Nat) : Int) from by omega, ← Int.natCast_emod]; rfl
        have s1 : IntKind.i64.wrap z = z := IntWalk.i64_in _ (by omega)
        have s2 : IntKind.i64.wrap (z * 131) = z * 131 := IntWalk.i64_in _ (by omega)
        have s3 : IntKind.i64.wrap ((k : Int) * 7) = (k : Int) * 7 := IntWalk.i64_in _ (by omega)
        have s4 : IntKind.i64.wrap ((k : Int) * 7 + 3) = (k : Int) * 7 + 3 := IntWalk.i64_in _ (by omega)
        have s5 : IntKind.i64.wrap y = y := IntWalk.i64_in _ (by omega)
        have s6 : IntKind.i64.wrap (y * 1117) = y * 1117 := IntWalk.i64_in _ (by omega)
        have s7 : IntKind.i64.wrap (z * 131 + y * 1117) = z * 131 + y * 1117 := IntWalk.i64_in _ (by omega)
        have s8 : IntKind.i64.wrap ((k : Int) * 29) = (k : Int) * 29 := IntWalk.i64_in _ (by omega)
        have s9 : IntKind.i64.wrap (z * 131 + y * 1117 + (k : Int) * 29) = z * 131 + y * 1117 + (k : Int) * 29 := IntWalk.i64_in _ (by omega)
        have s10 : IntKind.i64.wrap ((k : Int).tdiv (len : Int)) = (k : Int).tdiv (len : Int) := IntWalk.i64_in _ (by omega)
        have s11 : IntKind.i64.wrap ((k : Int).tdiv (len : Int) * 53) = (k : Int).tdiv (len : Int) * 53 := IntWalk.i64_in _ (by omega)
        have s12 : IntKind.i64.wrap (z * 131 + y * 1117 + (k : Int) * 29 + (k : Int).tdiv (len : Int) * 53) = z * 131 + y * 1117 + (k : Int) * 29 + (k : Int).tdiv (len : Int) * 53 := IntWalk.i64_in _ (by omega)
        rw [← e1] at cz
        rw [← e2] at cy
        clear hcell hz e1 e2 t1 t2 t3
        go_enter Try.func44, Try.ntmps44
        go_wp2
        go_quiet (fail)
        go_wp2
        go_ret
        have hm := mix_nonneg z y (k : Int) ((k : Int) / (len : Int)) z0 z1 y0 y1 (by omega) (by omega) (Int.ediv_nonneg (by omega) (by omega)) (Int.ediv_le_self _ (by omega))
        exact ⟨_, rfl, Int.tmod_nonneg _ hm, .inl (Int.tmod_lt_of_pos _ (by omega)), hD.drewN _⟩
end Go.Proofs.Ytdomalclpjijaaa
