import Derived.Test.YtbjegekfghihkaaB4
import Derived.Test.YtbjegekfghihkaaB18
import Derived.Test.YtbjegekfghihkaaB11
/-
  The contracts of StateOk, the program's and the model's.
-/
namespace Go.Proofs.Ytbjegekfghihkaa
open Go.RowKit
set_option linter.unusedVariables false
set_option linter.unusedSimpArgs false

def someF (s : Sp) : Bool := s.1 && okF s.1 s.2.1 s.2.2
/-- whether a state is ok -/
def stOk (a : Bool) (L : List Sp) (c : Sp) : Bool := if a = true then decide (L.length = 3) && L.all someF && someF c else decide (L.length = 0) && decide (c = noSp)

set_option maxHeartbeats 400000 in
theorem hasWords_any (a : Bool) (l u : Int) (w : World) : Calls Try.prog 87 #[.agg #[.bool a, .int .i64 l, .int .i64 u]] w fun e w' => e = .returned (.bool (someF (a, l, u))) ∧ Below w.heap.size w w' := by
  unfold someF
  cases ho : okF a l u
  · go_enter Try.func87, Try.ntmps87
    go_wp2_with fail
    refine (ok_impl _ _ _ _ ).mono ?_
    rintro e w1 ⟨rfl, hb1⟩
    have hz1 : w.heap.size + 1 ≤ w1.heap.size := by have := hb1.size; first | omega | (simp at this; omega)
    obtain ⟨p1x0, q1x0, r1x0, f1x0, g1x0, h1x0⟩ := cell3 hb1 (w.heap.size) (by go_size)
    rw [ho]
    go_wp2
    go_ret
    exact ⟨ret_bool (by simp), ((Below.refl _ _).alloc (Nat.le_refl _) _).trans (hb1.mono (by go_size))⟩
  · go_enter Try.func87, Try.ntmps87
    go_wp2_with fail
    refine (ok_impl _ _ _ _ ).mono ?_
    rintro e w1 ⟨rfl, hb1⟩
    have hz1 : w.heap.size + 1 ≤ w1.heap.size := by have := hb1.size; first | omega | (simp at this; omega)
    obtain ⟨p1x0, q1x0, r1x0, f1x0, g1x0, h1x0⟩ := cell3 hb1 (w.heap.size) (by go_size)
    rw [ho]
    go_wp2
    go_ret
    exact ⟨ret_bool (by simp), ((Below.refl _ _).alloc (Nat.le_refl _) _).trans (hb1.mono (by go_size))⟩

theorem all_yes {L : List Sp} (f : Sp → Bool) (h : ∀ j, j < L.length → f (L.getD j noSp) = true) : L.all f = true := by
  rw [List.all_eq_true]
  intro s hs
  obtain ⟨j, hj, rfl⟩ := List.getElem_of_mem hs
  have := h j hj
  rwa [List.getD_eq_getElem?_getD, List.getElem?_eq_getElem hj] at this
theorem all_no {L : List Sp} (f : Sp → Bool) {j : Nat} (hj : j < L.length) (h : f (L.getD j noSp) = false) : L.all f = false := by
  rw [List.all_eq_false]
  refine ⟨L[j], List.getElem_mem hj, ?_⟩
  rw [List.getD_eq_getElem?_getD, List.getElem?_eq_getElem hj] at h
  simpa using h
/-- the box of a state that a call has made first of all -/
theorem box5 {x y : World} {v0 v1 v2 v3 v4 : Value} {t : TypeId} (hb : Below (x.heap.size + 1) (x.alloc (.cells #[v0, v1, v2, v3, v4] t)) y) :
    y.cell? ⟨x.heap.size, 0, none⟩ = some v0 ∧ y.cell? ⟨x.heap.size, 1, none⟩ = some v1 ∧ y.cell? ⟨x.heap.size, 2, none⟩ = some v2 ∧ y.cell? ⟨x.heap.size, 3, none⟩ = some v3 ∧ y.cell? ⟨x.heap.size, 4, none⟩ = some v4 :=
  ⟨(hb.cell (p := ⟨x.heap.size, 0, none⟩) (by simp)).trans (by simp [go_sem]), (hb.cell (p := ⟨x.heap.size, 1, none⟩) (by simp)).trans (by simp [go_sem]), (hb.cell (p := ⟨x.heap.size, 2, none⟩) (by simp)).trans (by simp [go_sem]), (hb.cell (p := ⟨x.heap.size, 3, none⟩) (by simp)).trans (by simp [go_sem]), (hb.cell (p := ⟨x.heap.size, 4, none⟩) (by simp)).trans (by simp [go_sem])⟩
theorem below_box {x y : World} {o : Obj} (hb : Below (x.heap.size + 1) (x.alloc o) y) : Below x.heap.size x y := ((Below.refl _ _).alloc (Nat.le_refl _) _).trans (hb.mono (by omega))
theorem box_go {X y z : World} {n : Nat} (h : Below n X y) (hn : n ≤ X.heap.size) (hb : Below y.heap.size y z) : Below n X z := h.trans (hb.mono (Nat.le_trans hn h.size))

set_option maxHeartbeats 1000000 in
theorem stOk_impl (x : World) (z : Bool) (B E : Nat) (a : Bool) (v : Value) (L : List Sp) (c : Bool) (l u : Int) (h : SpsAt z x B E v L) :
    Calls Try.prog 63 #[.agg #[.bool a, v, .bool c, .int .i64 l, .int .i64 u]] x fun e y => e = .returned (.bool (stOk a L (c, l, u))) ∧ Below x.heap.size x y := by
  obtain ⟨p, cap, rfl, hm, hc⟩ := h
  unfold maxLen at hm
  have hmi : (L.length : Int) ≤ 9223372036854775807 := by omega
  clear hm
  cases a
  · clear hc
    by_cases h0 : L.length = 0
    · rw [h0]
      cases c
      · go_enter Try.func63, Try.ntmps63
        go_wp2_with fail
        all_goals
          go_ret
          exact ⟨ret_bool (by simp_all [stOk, noSp]), by go_grown⟩
      · go_enter Try.func63, Try.ntmps63
        go_wp2_with fail
        all_goals
          go_ret
          exact ⟨ret_bool (by simp_all [stOk, noSp]), by go_grown⟩
    · have h0' : ¬ (L.length : Int) = 0 := by omega
      go_enter Try.func63, Try.ntmps63
      go_wp2_with fail
      all_goals
        go_ret
        exact ⟨ret_bool (by simp_all [stOk, noSp]), by go_grown⟩
  · by_cases h3 : L.length = 3
    · rcases hc with h0 | ⟨g, o, rfl, hBg, hgE, hEx, hf, hins⟩
      · omega
      have HX : Hid (∀ j, j < L.length → Spn x g (o + j * 3) (L.getD j noSp)) := hins
      clear hins hf
      have hgx : g < x.heap.size := by omega
      rw [h3]
      have H3 : Hid (L.length = 3) := h3
      clear h3 hmi
      go_enter Try.func63, Try.ntmps63
      go_wp2_with fail
      go_loopw [25] (fun t y => ∃ k : Nat, k ≤ 3 ∧ t = .int .i64 k ∧ Below (x.heap.size + 1) (x.alloc (.cells #[.bool true, .slice (some ⟨g, o, none⟩) 3 cap, .bool c, .int .i64 l, .int .i64 u] 37)) y ∧ (∀ j, j < k → someF (L.getD j noSp) = true)) (fun t _ => 3 - (intOf t).toNat)
      case atStart => exact ⟨0, by omega, rfl, Below.refl _ _, fun j hj => by omega⟩
      case round =>
        obtain ⟨k, hk, rfl, hB, hd⟩ := hrel
        have HD : Hid (∀ j, j < k → someF (L.getD j noSp) = true) := hd
        clear hd
        have hB0 := below_box hB
        by_cases hlt : k < 3
        · have hki : (k : Int) < 3 := by omega
          obtain ⟨q0, q1, q2⟩ := (HX.out k (by rw [H3.out]; exact hlt)).later hB0 hgx
          generalize hI : L.getD k noSp = I at q0 q1 q2
          have HII : Hid (L.getD k noSp = I) := hI
          clear hI
          obtain ⟨i0, i1, i2⟩ := I
          simp only at q0 q1 q2
          go_wp2_with fail
          refine (hasWords_any _ _ _ _).mono ?_
          rintro e w2 ⟨rfl, hb2⟩
          have hB2 := box_go (hB.alloc (by have := hB.size; simpa using this) _) (by simp) hb2
          cases hs : someF (i0, i1, i2)
          · go_wp2_with fail
            go_ret
            refine ⟨ret_bool ?_, below_box hB2⟩
            unfold stOk
            rw [if_pos rfl, all_no someF (by rw [H3.out]; exact hlt) (HII.out ▸ hs)]
            simp
          · go_wp2_with fail
            go_roundw
            case rel =>
              refine ⟨k + 1, by omega, by go_num, hB2, fun j hj => ?_⟩
              by_cases hjk : j = k
              · subst hjk; rw [HII.out]; exact hs
              · exact HD.out j (by omega)
            case measure => simp [intOf]; omega
        · obtain rfl : k = 3 := by omega
          obtain ⟨c0, c1, c2, c3, c4⟩ := box5 hB
          go_wp2_with fail
          refine (hasWords_any _ _ _ _).mono ?_
          rintro e w2 ⟨rfl, hb2⟩
          have hB2 := box_go hB (by simp) hb2
          go_wp2_with fail
          go_ret
          refine ⟨ret_bool ?_, below_box hB2⟩
          unfold stOk
          rw [if_pos rfl, all_yes someF (by rw [H3.out]; exact HD.out)]
          simp [H3.out]
    · have h3' : ¬ (L.length : Int) = 3 := by omega
      clear hc
      go_enter Try.func63, Try.ntmps63
      go_wp2_with fail
      all_goals
        go_ret
        exact ⟨ret_bool (by simp_all [stOk, noSp]), by go_grown⟩

theorem l1SomeS (a : Bool) (l u : Int) (w : World) : Calls Try.prog 83 #[.agg #[.bool a, .int .i64 l, .int .i64 u]] w fun e w' => e = .returned (.bool (someF (a, l, u))) ∧ Below w.heap.size w w' := l1Some_any a l u w

set_option maxHeartbeats 1000000 in
theorem stOk_spec (x : World) (z : Bool) (B E : Nat) (a : Bool) (v : Value) (L : List Sp) (c : Bool) (l u : Int) (h : SpsAt z x B E v L) :
    Calls Try.prog 58 #[.agg #[.bool a, v, .bool c, .int .i64 l, .int .i64 u]] x fun e y => e = .returned (.bool (stOk a L (c, l, u))) ∧ Below x.heap.size x y := by
  obtain ⟨p, cap, rfl, hm, hc⟩ := h
  unfold maxLen at hm
  have hmi : (L.length : Int) ≤ 9223372036854775807 := by omega
  clear hm
  cases a
  · clear hc
    by_cases h0 : L.length = 0
    · rw [h0]
      cases c
      · go_enter Try.func58, Try.ntmps58
        go_wp2_with fail
        all_goals
          go_ret
          exact ⟨ret_bool (by simp_all [stOk, noSp]), by go_grown⟩
      · go_enter Try.func58, Try.ntmps58
        go_wp2_with fail
        all_goals
          go_ret
          exact ⟨ret_bool (by simp_all [stOk, noSp]), by go_grown⟩
    · have h0' : ¬ (L.length : Int) = 0 := by omega
      go_enter Try.func58, Try.ntmps58
      go_wp2_with fail
      all_goals
        go_ret
        exact ⟨ret_bool (by simp_all [stOk, noSp]), by go_grown⟩
  · by_cases h3 : L.length = 3
    · rcases hc with h0 | ⟨g, o, rfl, hBg, hgE, hEx, hf, hins⟩
      · omega
      have HX : Hid (∀ j, j < L.length → Spn x g (o + j * 3) (L.getD j noSp)) := hins
      clear hins hf
      have hgx : g < x.heap.size := by omega
      rw [h3]
      have H3 : Hid (L.length = 3) := h3
      clear h3 hmi
      go_enter Try.func58, Try.ntmps58
      go_wp2_with fail
      refine (l1SomeS _ _ _ _).mono ?_
      rintro e w1 ⟨rfl, hb1⟩
      have hB1 := box_go (Below.refl (x.heap.size + 1) _) (by simp) hb1
      clear hb1
      cases hsc : someF (c, l, u)
      · go_wp2_with fail
        go_ret
        refine ⟨ret_bool ?_, below_box hB1⟩
        unfold stOk
        rw [if_pos rfl, hsc]
        simp
      · go_wp2_with fail
        go_loopw [3] (fun t y => ∃ k : Nat, k ≤ 3 ∧ t = .int .i64 k ∧ Below (x.heap.size + 1) (x.alloc (.cells #[.bool true, .slice (some ⟨g, o, none⟩) 3 cap, .bool c, .int .i64 l, .int .i64 u] 37)) y ∧ (∀ j, j < k → someF (L.getD j noSp) = true)) (fun t _ => 3 - (intOf t).toNat)
        case atStart => exact ⟨0, by omega, rfl, hB1, fun j hj => by omega⟩
        case round =>
          clear hB1
          obtain ⟨k, hk, rfl, hB, hd⟩ := hrel
          have HD : Hid (∀ j, j < k → someF (L.getD j noSp) = true) := hd
          clear hd
          have hB0 := below_box hB
          by_cases hlt : k < 3
          · have hki : (k : Int) < 3 := by omega
            obtain ⟨q0, q1, q2⟩ := (HX.out k (by rw [H3.out]; exact hlt)).later hB0 hgx
            obtain ⟨c0, c1, c2, c3, c4⟩ := box5 hB
            generalize hI : L.getD k noSp = I at q0 q1 q2
            have HII : Hid (L.getD k noSp = I) := hI
            clear hI
            obtain ⟨i0, i1, i2⟩ := I
            simp only at q0 q1 q2
            go_wp2_with fail
            refine (l1SomeS _ _ _ _).mono ?_
            rintro e w2 ⟨rfl, hb2⟩
            have hB2 := box_go hB (by simp) hb2
            clear c0 c1 c2 c3 c4 q0 q1 q2
            cases hs : someF (i0, i1, i2)
            · go_wp2_with fail
              go_ret
              refine ⟨ret_bool ?_, below_box hB2⟩
              unfold stOk
              rw [if_pos rfl, all_no someF (by rw [H3.out]; exact hlt) (HII.out ▸ hs)]
              simp
            · go_wp2_with fail
              go_roundw
              case rel =>
                refine ⟨k + 1, by omega, by go_num, hB2, fun j hj => ?_⟩
                by_cases hjk : j = k
                · subst hjk; rw [HII.out]; exact hs
                · exact HD.out j (by omega)
              case measure => simp [intOf]; omega
          · obtain rfl : k = 3 := by omega
            go_wp2_with fail
            go_ret
            refine ⟨ret_bool ?_, below_box hB⟩
            unfold stOk
            rw [if_pos rfl, all_yes someF (by rw [H3.out]; exact HD.out)]
            simp [H3.out, hsc]
    · have h3' : ¬ (L.length : Int) = 3 := by omega
      clear hc
      go_enter Try.func58, Try.ntmps58
      go_wp2_with fail
      all_goals
        go_ret
        exact ⟨ret_bool (by simp_all [stOk, noSp]), by go_grown⟩
end Go.Proofs.Ytbjegekfghihkaa

/-
  Whether there is a procedure: the contracts of hasProc and l2Proc; of insAt; of comesBy and l12At.
-/
namespace Go.Proofs.Ytbjegekfghihkaa
open Go.RowKit
set_option linter.unusedVariables false
set_option linter.unusedSimpArgs false

theorem ProgAt.shape {x : World} {B : Nat} {v : Value} {P : List (List I4)} (h : ProgAt x B v P) : ∃ p cap, v = .slice p P.length cap ∧ P.length ≤ maxLen := by
  obtain ⟨p, cap, hv, hm, _⟩ := h
  exact ⟨p, cap, hv, hm⟩
/-- a procedure's code -/
theorem ProgAt.code {x : World} {B : Nat} {p : Option Addr} {cap : Nat} {P : List (List I4)} (h : ProgAt x B (.slice p P.length cap) P) {k : Nat} (hk : k < P.length) :
    ∃ g o u, p = some ⟨g, o, none⟩ ∧ g < x.heap.size ∧ x.cell? ⟨g, o + k, none⟩ = some u ∧ CodeAt x B u (P.getD k []) := by
  obtain ⟨p', cap', hv, _, hc⟩ := h
  injection hv with e1 e2 e3
  subst e1
  rcases hc with h0 | ⟨g, o, hp, _, hg, hj⟩
  · omega
  · obtain ⟨u, hu, hcu⟩ := hj k hk
    exact ⟨g, o, u, hp, hg, hu, hcu⟩
theorem CodeAt.ins {x : World} {B : Nat} {p : Option Addr} {cap : Nat} {c : List I4} (h : CodeAt x B (.slice p c.length cap) c) {j : Nat} (hj : j < c.length) :
    ∃ g o, p = some ⟨g, o, none⟩ ∧ g < x.heap.size ∧ Ins4 x g (o + j * 4) (c.getD j i0) := by
  obtain ⟨p', cap', hv, _, hc⟩ := h
  injection hv with e1 e2 e3
  subst e1
  rcases hc with h0 | ⟨g, o, hp, _, hg, hj'⟩
  · omega
  · exact ⟨g, o, hp, hg, hj' j hj⟩
theorem CodeAt.shape {x : World} {B : Nat} {v : Value} {c : List I4} (h : CodeAt x B v c) : ∃ p cap, v = .slice p c.length cap ∧ c.length ≤ maxLen := by
  obtain ⟨p, cap, hv, hm, _⟩ := h
  exact ⟨p, cap, hv, hm⟩
theorem progOkF_len {P : List (List I4)} (h : progOkF P = true) : 1 ≤ P.length ∧ P.length ≤ 4 := by
  simp only [progOkF, Bool.and_eq_true, decide_eq_true_eq] at h
  exact h.1
theorem progOkF_code {P : List (List I4)} (h : progOkF P = true) {k : Nat} (hk : k < P.length) : (P.getD k []).length ≤ 8 ∧ ∀ j, j < (P.getD k []).length → insOkF ((P.getD k []).getD j i0) (P.getD k []).length P.length = true := by
  simp only [progOkF, Bool.and_eq_true, List.all_eq_true] at h
  have hm : P.getD k [] ∈ P := by rw [List.getD, List.getElem?_eq_getElem hk]; simp
  have h2 := h.2 _ hm
  simp only [codeOkF, Bool.and_eq_true, decide_eq_true_eq, List.all_eq_true] at h2
  generalize P.getD k [] = C at h2
  exact ⟨h2.1, fun j hj => h2.2 _ (by rw [List.getD, List.getElem?_eq_getElem hj]; simp)⟩

/-- whether a program is ok and has that procedure -/
def hasPF (P : List (List I4)) (k : Int) : Bool := progOkF P && inI k 0 (P.length - 1)
theorem hasPF_at {P : List (List I4)} {k : Int} (h : hasPF P k = true) : ∃ n : Nat, k = n ∧ n < P.length ∧ progOkF P = true := by
  simp only [hasPF, inI, Bool.and_eq_true, decide_eq_true_eq] at h
  exact ⟨k.toNat, by omega, by omega, h.1⟩

set_option maxHeartbeats 1000000 in
theorem hasProc_impl (x : World) (B : Nat) (v : Value) (P : List (List I4)) (h : ProgAt x B v P) (k : Int) :
    Calls Try.prog 61 #[v, .int .i64 k] x fun e y => e = .returned (.bool (hasPF P k)) ∧ Below x.heap.size x y := by
  obtain ⟨p, cap, rfl, hm⟩ := h.shape
  have H : Hid (ProgAt x B (.slice p P.length cap) P) := h
  clear h hm
  go_enter Try.func61, Try.ntmps61
  go_wp2_with fail
  refine (progOk_impl _ _ _ P H.out).mono ?_
  rintro e y ⟨rfl, hb⟩
  cases hok : progOkF P
  · go_wp2_with fail
    go_ret
    exact ⟨retBool (by simp [hasPF, hok]), hb⟩
  · have hl := progOkF_len hok
    have hb1 : (P.length : Int) ≤ 4 := by omega
    go_wp2_with fail
    refine (hasProc_any P.length 0 k _).mono ?_
    rintro e z ⟨rfl, hb2⟩
    have hb3 := hb.trans (hb2.mono hb.size)
    go_wp2_with fail
    go_ret
    exact ⟨retBool (by simp [hasPF, hok]), hb3⟩

set_option maxHeartbeats 1000000 in
theorem l2Proc_any (x : World) (B : Nat) (v : Value) (P : List (List I4)) (h : ProgAt x B v P) (k : Int) :
    Calls Try.prog 57 #[v, .int .i64 k] x fun e y => e = .returned (.bool (hasPF P k)) ∧ Below x.heap.size x y := by
  obtain ⟨p, cap, rfl, hm⟩ := h.shape
  have H : Hid (ProgAt x B (.slice p P.length cap) P) := h
  clear h hm
  go_enter Try.func57, Try.ntmps57
  go_wp2_with fail
  refine (progOk_spec _ _ _ P H.out).mono ?_
  rintro e y ⟨rfl, hb⟩
  cases hok : progOkF P
  · go_wp2_with fail
    go_ret
    exact ⟨retBool (by simp [hasPF, hok]), hb⟩
  · have hl := progOkF_len hok
    have hb1 : (P.length : Int) ≤ 4 := by omega
    go_wp2_with fail
    refine (l6In_e _ _ _ _).mono ?_
    rintro e z ⟨rfl, rfl⟩
    go_wp2_with fail
    go_ret
    exact ⟨retBool (by simp [hasPF, hok]), hb⟩

/-- the instruction at a place, behind its interface; nil at the end -/
def insF (c : List I4) (at_ : Nat) : Value := if at_ = c.length then .nilIface else ifcF (c.getD at_ i0)

set_option maxHeartbeats 1000000 in
theorem insAt_impl (x : World) (B : Nat) (v : Value) (P : List (List I4)) (h : ProgAt x B v P) (k a : Nat) (hk : k < P.length) (hl : P.length ≤ 4) (ha : a ≤ (P.getD k []).length) (h8 : (P.getD k []).length ≤ 8) :
    Calls Try.prog 35 #[v, .int .i64 k, .int .i64 a] x fun e y => e = .returned (insF (P.getD k []) a) ∧ Below x.heap.size x y := by
  obtain ⟨p, cap, rfl, hm⟩ := h.shape
  obtain ⟨g, o, u, rfl, hg, hu, hc⟩ := h.code hk
  obtain ⟨pk, ck, rfl, _⟩ := hc.shape
  have HC : Hid (CodeAt x B (.slice pk (P.getD k []).length ck) (P.getD k [])) := hc
  clear hc h hm
  generalize P.getD k [] = C at *
  generalize P.length = n at *
  have hki : (k : Int) < (n : Int) := by omega
  have hn4 : (n : Int) ≤ 4 := by omega
  have hc8 : (C.length : Int) ≤ 8 := by omega
  by_cases he : a = C.length
  · have hf : insF C a = .nilIface := by simp [insF, he]
    rw [hf]
    clear hf
    subst he
    go_enter Try.func35, Try.ntmps35
    go_wp2_with fail
    go_ret
    exact ⟨rfl, Below.refl _ _⟩
  · have hf : insF C a = ifcF (C.getD a i0) := by simp [insF, he]
    rw [hf]
    clear hf
    obtain ⟨g2, o2, rfl, hg2, hI⟩ := HC.out.ins (j := a) (by omega)
    obtain ⟨q0, q1, q2, q3⟩ := hI
    clear HC
    generalize C.getD a i0 = I at *
    generalize C.length = m at *
    have hai : (a : Int) < (m : Int) := by omega
    have hne : ((a : Int) == (m : Int)) = false := by simp; omega
    go_enter Try.func35, Try.ntmps35
    go_wp2_with fail
    refine (instructionOf_any I _).mono ?_
    rintro e y ⟨rfl, hb⟩
    go_wp2_with fail
    go_ret
    exact ⟨rfl, hb⟩

/-- whether a place is one of a procedure's code -/
def placeF (P : List (List I4)) (k a : Int) : Bool := inI a 0 ((P.getD k.toNat []).length)
/-- whether one comes by a place with a state -/
def comesF (P : List (List I4)) (k at_ : Int) (a : Bool) (L : List Sp) (c : Sp) : Bool := hasPF P k && placeF P k at_ && stOk a L c && a

set_option maxHeartbeats 2000000 in
theorem comesBy_impl (x : World) (B : Nat) (v : Value) (P : List (List I4)) (h : ProgAt x B v P) (k at_ : Int) (z : Bool) (C E : Nat) (a : Bool) (s : Value) (L : List Sp) (c : Bool) (l u : Int) (hs : SpsAt z x C E s L) :
    Calls Try.prog 33 #[v, .int .i64 k, .int .i64 at_, .agg #[.bool a, s, .bool c, .int .i64 l, .int .i64 u]] x fun e y => e = .returned (.bool (comesF P k at_ a L (c, l, u))) ∧ Below x.heap.size x y := by
  obtain ⟨p, cap, rfl, hm⟩ := h.shape
  obtain ⟨ps, cs, rfl⟩ := hs.shape
  have H : Hid (ProgAt x B (.slice p P.length cap) P) := h
  have HS : Hid (SpsAt z x C E (.slice ps L.length cs) L) := hs
  clear h hm hs
  have HXB : Hid (Below x.heap.size x (x.alloc (.cells #[.bool a, .slice ps L.length cs, .bool c, .int .i64 l, .int .i64 u] 37))) := (Below.refl _ _).alloc (Nat.le_refl _) _
  have HBX : Hid (Bx5 (x.alloc (.cells #[.bool a, .slice ps L.length cs, .bool c, .int .i64 l, .int .i64 u] 37)) x.heap.size (.bool a) (.slice ps L.length cs) (.bool c) (.int .i64 l) (.int .i64 u)) := Bx5.new _ _ _ _ _ _ _
  go_enter Try.func33, Try.ntmps33
  go_wp2_with fail
  generalize x.alloc (.cells #[.bool a, .slice ps L.length cs, .bool c, .int .i64 l, .int .i64 u] 37) = X at HXB HBX ⊢
  refine (hasProc_impl X B _ P (H.out.later HXB.out) k).mono ?_
  rintro e y ⟨rfl, hb⟩
  have HY : Hid (Below x.heap.size x y) := HXB.out.trans (hb.mono HXB.out.size)
  have HBY : Hid (Bx5 y x.heap.size (.bool a) (.slice ps L.length cs) (.bool c) (.int .i64 l) (.int .i64 u)) := HBX.out.later hb
  clear hb HXB HBX
  cases hh : hasPF P k
  · go_wp2_with fail
    go_ret
    exact ⟨retBool (by simp [comesF, hh]), HY.out⟩
  · obtain ⟨kn, rfl, hkn, hok⟩ := hasPF_at hh
    have hl4 := (progOkF_len hok).2
    obtain ⟨g, o, uu, rfl, hg, hu, hc⟩ := H.out.code hkn
    obtain ⟨pk, ck, rfl, _⟩ := hc.shape
    have d0 := (HY.out.cell (p := ⟨g, o + kn, none⟩) hg).trans hu
    have HF : Hid (comesF P kn at_ a L (c, l, u) = (inI at_ 0 (P.getD kn []).length && stOk a L (c, l, u) && a)) := by
      show comesF P kn at_ a L (c, l, u) = _
      simp [comesF, hh, placeF]
    have h8 := (progOkF_code hok hkn).1
    clear hc hu hh hok H
    generalize P.getD kn [] = K at *
    generalize P.length = n at *
    have hki : (kn : Int) < (n : Int) := by omega
    have hn4 : (n : Int) ≤ 4 := by omega
    have hc8 : (K.length : Int) ≤ 8 := by omega
    go_wp2_with fail
    refine (hasPlace_any 0 K.length at_ _).mono ?_
    rintro e y2 ⟨rfl, hb2⟩
    have HY2 : Hid (Below x.heap.size x y2) := HY.out.trans (hb2.mono HY.out.size)
    have HB2 : Hid (Bx5 y2 x.heap.size (.bool a) (.slice ps L.length cs) (.bool c) (.int .i64 l) (.int .i64 u)) := HBY.out.later hb2
    clear hb2 HY HBY d0
    cases hp : inI at_ 0 K.length
    · go_wp2_with fail
      go_ret
      exact ⟨retBool (by rw [HF.out, hp]; simp), HY2.out⟩
    · obtain ⟨_, b0, b1, b2, b3, b4, _⟩ := HB2.out
      go_wp2_with fail
      refine (stOk_impl y2 z C E a _ L c l u (HS.out.later HY2.out)).mono ?_
      rintro e y3 ⟨rfl, hb3⟩
      have HY3 : Hid (Below x.heap.size x y3) := HY2.out.trans (hb3.mono HY2.out.size)
      have HB3 : Hid (Bx5 y3 x.heap.size (.bool a) (.slice ps L.length cs) (.bool c) (.int .i64 l) (.int .i64 u)) := HB2.out.later hb3
      clear hb3 HY2 HB2 b0 b1 b2 b3 b4
      cases hst : stOk a L (c, l, u)
      · go_wp2_with fail
        go_ret
        exact ⟨retBool (by rw [HF.out, hp, hst]; simp), HY3.out⟩
      · obtain ⟨_, b0, b1, b2, b3, b4, _⟩ := HB3.out
        go_wp2_with fail
        go_ret
        exact ⟨retBool (by rw [HF.out, hp, hst]; simp), HY3.out⟩

set_option maxHeartbeats 2000000 in
theorem l12At_any (x : World) (B : Nat) (v : Value) (P : List (List I4)) (h : ProgAt x B v P) (k at_ : Int) (z : Bool) (C E : Nat) (a : Bool) (s : Value) (L : List Sp) (c : Bool) (l u : Int) (hs : SpsAt z x C E s L) :
    Calls Try.prog 28 #[v, .int .i64 k, .int .i64 at_, .agg #[.bool a, s, .bool c, .int .i64 l, .int .i64 u]] x fun e y => e = .returned (.bool (hasPF P k && placeF P k at_ && stOk a L (c, l, u))) ∧ Below x.heap.size x y := by
  obtain ⟨p, cap, rfl, hm⟩ := h.shape
  obtain ⟨ps, cs, rfl⟩ := hs.shape
  have H : Hid (ProgAt x B (.slice p P.length cap) P) := h
  have HS : Hid (SpsAt z x C E (.slice ps L.length cs) L) := hs
  clear h hm hs
  have HXB : Hid (Below x.heap.size x (x.alloc (.cells #[.bool a, .slice ps L.length cs, .bool c, .int .i64 l, .int .i64 u] 37))) := (Below.refl _ _).alloc (Nat.le_refl _) _
  have HBX : Hid (Bx5 (x.alloc (.cells #[.bool a, .slice ps L.length cs, .bool c, .int .i64 l, .int .i64 u] 37)) x.heap.size (.bool a) (.slice ps L.length cs) (.bool c) (.int .i64 l) (.int .i64 u)) := Bx5.new _ _ _ _ _ _ _
  go_enter Try.func28, Try.ntmps28
  go_wp2_with fail
  generalize x.alloc (.cells #[.bool a, .slice ps L.length cs, .bool c, .int .i64 l, .int .i64 u] 37) = X at HXB HBX ⊢
  refine (l2Proc_any X B _ P (H.out.later HXB.out) k).mono ?_
  rintro e y ⟨rfl, hb⟩
  have HY : Hid (Below x.heap.size x y) := HXB.out.trans (hb.mono HXB.out.size)
  have HBY : Hid (Bx5 y x.heap.size (.bool a) (.slice ps L.length cs) (.bool c) (.int .i64 l) (.int .i64 u)) := HBX.out.later hb
  clear hb HXB HBX
  cases hh : hasPF P k
  · go_wp2_with fail
    go_ret
    exact ⟨retBool (by simp [hh]), HY.out⟩
  · obtain ⟨kn, rfl, hkn, hok⟩ := hasPF_at hh
    have hl4 := (progOkF_len hok).2
    obtain ⟨g, o, uu, rfl, hg, hu, hc⟩ := H.out.code hkn
    obtain ⟨pk, ck, rfl, _⟩ := hc.shape
    have d0 := (HY.out.cell (p := ⟨g, o + kn, none⟩) hg).trans hu
    have HF : Hid ((hasPF P kn && placeF P kn at_ && stOk a L (c, l, u)) = (inI at_ 0 (P.getD kn []).length && stOk a L (c, l, u))) := by
      show (hasPF P kn && placeF P kn at_ && stOk a L (c, l, u)) = _
      simp [hh, placeF]
    have h8 := (progOkF_code hok hkn).1
    clear hc hu hh hok H
    generalize P.getD kn [] = K at *
    generalize P.length = n at *
    have hki : (kn : Int) < (n : Int) := by omega
    have hn4 : (n : Int) ≤ 4 := by omega
    have hc8 : (K.length : Int) ≤ 8 := by omega
    go_wp2_with fail
    refine (l6In_e _ _ _ _).mono ?_
    rintro e y2 ⟨rfl, hy2⟩
    have hy3 := hy2.symm
    subst hy3
    cases hp : inI at_ 0 K.length
    · go_wp2_with fail
      go_ret
      exact ⟨retBool (by rw [HF.out, hp]; simp), HY.out⟩
    · obtain ⟨_, b0, b1, b2, b3, b4, _⟩ := HBY.out
      go_wp2_with fail
      refine (stOk_spec y z C E a _ L c l u (HS.out.later HY.out)).mono ?_
      rintro e y3 ⟨rfl, hb3⟩
      have HY3 : Hid (Below x.heap.size x y3) := HY.out.trans (hb3.mono HY.out.size)
      clear hb3 b0 b1 b2 b3 b4
      go_wp2_with fail
      go_ret
      exact ⟨retBool (by rw [HF.out, hp]; simp), HY3.out⟩

end Go.Proofs.Ytbjegekfghihkaa
