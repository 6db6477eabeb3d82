import Derived.Test.YtbjegekfghihkaaB15
import Derived.Test.YtbjegekfghihkaaB12
import Derived.Test.YtbjegekfghihkaaB4
/-
  The contracts of the laws' own helpers on states: copied (toState), the same (eqSpanS, eqState).
-/
namespace Go.Proofs.Ytbjegekfghihkaa
open Go.RowKit
set_option linter.unusedVariables false
set_option linter.unusedSimpArgs false

theorem SpsAt.shape {z : Bool} {x : World} {B E : Nat} {v : Value} {L : List Sp} (h : SpsAt z x B E v L) : ∃ p cap, v = .slice p L.length cap := by
  obtain ⟨p, cap, hv, _⟩ := h
  exact ⟨p, cap, hv⟩

set_option maxHeartbeats 1000000 in
theorem toState_any (x : World) (z : Bool) (B E : Nat) (a : Bool) (v : Value) (L : List Sp) (c : Bool) (l u : Int) (h : SpsAt z x B E v L) (hn : L.length ≤ 1048576) :
    Calls Try.prog 10 #[.agg #[.bool a, v, .bool c, .int .i64 l, .int .i64 u]] x fun e y => ∃ v', e = .returned (.agg #[.bool a, v', .bool c, .int .i64 l, .int .i64 u]) ∧ SpsAt true y x.heap.size y.heap.size v' L ∧ Below x.heap.size x y := by
  obtain ⟨p, cap, rfl⟩ := h.shape
  have HN : Hid (L.length ≤ 1048576) := hn
  clear hn
  have H : Hid (SpsAt z x B E (.slice p L.length cap) L) := h
  clear h
  generalize hL : L.length = n at H HN
  have HL : Hid (L.length = n) := hL
  clear hL
  go_enter Try.func10, Try.ntmps10
  go_wp2_with fail
  have hbW : Below x.heap.size x (((x.alloc (.cells #[.bool a, .slice p n cap, .bool c, .int .i64 l, .int .i64 u] 27)).alloc (.cells #[.bool false, .slice none 0 0, .bool false, .int .i64 0, .int .i64 0] 37)).alloc (.cells #[.bool a, .slice none 0 0, .bool false, .int .i64 0, .int .i64 0] 37)) := by go_grown
  refine (toSpanS_any _ z B E _ L (H.out.later hbW) (by rw [HL.out]; exact HN.out)).mono ?_
  rintro e y ⟨v1, rfl, hc, hb⟩
  obtain ⟨q, cp, rfl⟩ := hc.shape
  rw [HL.out] at hc
  rw [HL.out]
  have hB : Below x.heap.size x y := hbW.trans (hb.mono (by first | (simp; done) | (simp; omega)))
  have hz : x.heap.size + 3 ≤ y.heap.size := by have := hb.size; simp at this; omega
  have hc3 : Hid (SpsAt true y (x.heap.size + 3) y.heap.size (.slice q n cp) L) := hc.wide (by simp) (Nat.le_refl _) (Nat.le_refl _)
  have k0 := ((((Bx5.new x (.bool a) (.slice p n cap) (.bool c) (.int .i64 l) (.int .i64 u) 27).alloc _).alloc _).later hb)
  have k1 := (((Bx5.new (x.alloc _) (.bool false) (.slice none 0 0) (.bool false) (.int .i64 0) (.int .i64 0) 37).alloc _).later hb)
  have k2 := ((Bx5.new ((x.alloc _).alloc _) (.bool a) (.slice none 0 0) (.bool false) (.int .i64 0) (.int .i64 0) 37).later hb)
  simp at k1 k2
  have K0 : Hid _ := k0
  have K1 : Hid _ := k1
  have K2 : Hid _ := k2
  obtain ⟨_, a0, a1, a2, a3, a4, _⟩ := k0
  obtain ⟨_, d0, d1, d2, d3, d4, df⟩ := k2
  clear k1 hbW hb hc
  go_wp2_with fail
  refine (toSpan_any _ _ _ _).mono ?_
  rintro e w2 ⟨rfl, hb2⟩
  clear a0 a1 a2 a3 a4 d0 d1 d2 d3 d4 df
  have e1 := (K1.out.off (b := x.heap.size + 1 + 1) (o := 1) (u := .slice q n cp) (by omega)).later hb2
  have e2 := (K2.out.set1 (u := .slice q n cp)).later hb2
  have hc4 : Hid (SpsAt true w2 (x.heap.size + 3) y.heap.size (.slice q n cp) L) := (hc3.out.off (by omega)).later hb2
  have hB2 : Below x.heap.size x w2 := (hB.setCell (p := ⟨x.heap.size + 1 + 1, 1, none⟩) (by simp; omega) _).trans (hb2.mono (by simp; omega))
  have hz2 : y.heap.size ≤ w2.heap.size := by have := hb2.size; simpa using this
  clear hb2 hB hc3 K0 K1 K2
  obtain ⟨el, d0, d1, d2, d3, d4, df⟩ := e1
  obtain ⟨fl, f0, f1, f2, f3, f4, ff⟩ := e2
  go_wp2_with fail
  refine bodyPost_ret (v := .agg #[.bool a, .slice q n cp, .bool c, .int .i64 l, .int .i64 u]) (by simp [results, Try.results10, go_sem, el, fl, f0, f1, f2, f3, f4, d0, d1, d2, d3, d4, ff, df]) rfl ⟨_, rfl, ?_, ?_⟩
  · refine SpsAt.wide (B := x.heap.size + 3) (E := y.heap.size) ?_ (by omega) (by simp; omega) (by simp)
    repeat (refine SpsAt.off ?_ (by omega))
    exact hc4.out
  · repeat (refine Below.setCell ?_ (by simp <;> omega) _)
    exact hB2

theorem keep6 {w y : World} {g o g' o' k : Nat} {i0 : Bool} {i1 i2 : Int} (h : (fun z => z.cell? ⟨g, o + k * 3, none⟩ = some (.bool i0) ∧ z.cell? ⟨g, o + k * 3 + 1, none⟩ = some (.int .i64 i1) ∧ z.cell? ⟨g, o + k * 3 + 2, none⟩ = some (.int .i64 i2) ∧ z.cell? ⟨g', o' + k * 3, none⟩ = some (.bool i0) ∧ z.cell? ⟨g', o' + k * 3 + 1, none⟩ = some (.int .i64 i1) ∧ z.cell? ⟨g', o' + k * 3 + 2, none⟩ = some (.int .i64 i2)) w) (hb : Below w.heap.size w y) (hg : g < w.heap.size) (hg' : g' < w.heap.size) : (fun z => z.cell? ⟨g, o + k * 3, none⟩ = some (.bool i0) ∧ z.cell? ⟨g, o + k * 3 + 1, none⟩ = some (.int .i64 i1) ∧ z.cell? ⟨g, o + k * 3 + 2, none⟩ = some (.int .i64 i2) ∧ z.cell? ⟨g', o' + k * 3, none⟩ = some (.bool i0) ∧ z.cell? ⟨g', o' + k * 3 + 1, none⟩ = some (.int .i64 i1) ∧ z.cell? ⟨g', o' + k * 3 + 2, none⟩ = some (.int .i64 i2)) y := by
  obtain ⟨d0, d1, d2, e0, e1, e2⟩ := h
  exact ⟨(hb.cell (p := ⟨g, _, none⟩) hg).trans d0, (hb.cell (p := ⟨g, _, none⟩) hg).trans d1, (hb.cell (p := ⟨g, _, none⟩) hg).trans d2, (hb.cell (p := ⟨g', _, none⟩) hg').trans e0, (hb.cell (p := ⟨g', _, none⟩) hg').trans e1, (hb.cell (p := ⟨g', _, none⟩) hg').trans e2⟩
set_option maxHeartbeats 1000000 in
theorem eqSpanS_same (x : World) (z z' : Bool) (B E C D : Nat) (v u : Value) (c : List Sp) (h : SpsAt z x B E v c) (h' : SpsAt z' x C D u c) :
    Calls Try.prog 38 #[v, u] x fun e y => e = .returned (.bool true) ∧ Below x.heap.size x y := by
  obtain ⟨p, cap, rfl, hm, hc⟩ := h
  obtain ⟨p', cap', rfl, _, hc'⟩ := h'
  generalize hL : c.length = n at *
  unfold maxLen at hm
  have hni : (n : Int) ≤ 9223372036854775807 := by omega
  clear hL hm
  go_enter Try.func38, Try.ntmps38
  go_wp2_with fail
  go_loopw [5] (fun t y => ∃ k : Nat, k ≤ n ∧ t = .int .i64 k ∧ Below x.heap.size x y) (fun t _ => n - (intOf t).toNat)
  case atStart => exact ⟨0, by omega, rfl, Below.refl _ _⟩
  case round =>
    obtain ⟨k, hk, rfl, hB⟩ := hrel
    by_cases hlt : k < n
    · rcases hc with h0 | ⟨g, o, rfl, hBg, hgE, hEx, _, hins⟩
      · omega
      rcases hc' with h0 | ⟨g', o', rfl, hBg', hgE', hEx', _, hins'⟩
      · omega
      have hgx : g < x.heap.size := by omega
      have hgx' : g' < x.heap.size := by omega
      have hki : (k : Int) < (n : Int) := by omega
      obtain ⟨d0, d1, d2⟩ := (hins k hlt).later hB hgx
      obtain ⟨e0, e1, e2⟩ := (hins' k hlt).later hB hgx'
      clear hins hins'
      generalize c.getD k noSp = I at *
      obtain ⟨i0, i1, i2⟩ := I
      simp only at d0 d1 d2 e0 e1 e2
      have hgw : g < wr.heap.size := Nat.lt_of_lt_of_le hgx hB.size
      have hgw' : g' < wr.heap.size := Nat.lt_of_lt_of_le hgx' hB.size
      go_wp2_with fail
      go_region_held3 (fun z => z.cell? ⟨g, o + k * 3, none⟩ = some (.bool i0) ∧ z.cell? ⟨g, o + k * 3 + 1, none⟩ = some (.int .i64 i1) ∧ z.cell? ⟨g, o + k * 3 + 2, none⟩ = some (.int .i64 i2) ∧ z.cell? ⟨g', o' + k * 3, none⟩ = some (.bool i0) ∧ z.cell? ⟨g', o' + k * 3 + 1, none⟩ = some (.int .i64 i1) ∧ z.cell? ⟨g', o' + k * 3 + 2, none⟩ = some (.int .i64 i2)) (first | (with_reducible assumption) | exact ⟨d0, d1, d2, e0, e1, e2⟩ | fail) ((go_at_call 39; refine (eqSpan_same i0 i1 i2 _).mono ?_; rintro e w2 ⟨rfl, hb2⟩; have hS2 := keep6 (w := wr.drew) (o := o) (o' := o') (k := k) (i0 := i0) (i1 := i1) (i2 := i2) ⟨d0, d1, d2, e0, e1, e2⟩ hb2 hgw hgw'))
      have hB2 : Below x.heap.size x w2 := hB.trans ((Below.drew (Below.refl _ _)).trans (hb2.mono (by simp)) |>.mono hB.size)
      go_wp2_with fail
      go_roundw
      case rel => exact ⟨k + 1, by omega, by go_num, hB2⟩
      case measure => simp [intOf]; omega
    · obtain rfl : k = n := by omega
      have hki : ¬ (k : Int) < (k : Int) := by omega
      go_wp2_with fail
      go_ret
      exact ⟨rfl, hB⟩

set_option maxHeartbeats 1000000 in
theorem eqState_same (x : World) (z z' : Bool) (B E C D : Nat) (a : Bool) (v v' : Value) (L : List Sp) (c : Bool) (l u : Int) (h : SpsAt z x B E v L) (h' : SpsAt z' x C D v' L) :
    Calls Try.prog 14 #[.agg #[.bool a, v, .bool c, .int .i64 l, .int .i64 u], .agg #[.bool a, v', .bool c, .int .i64 l, .int .i64 u]] x fun e y => e = .returned (.bool true) ∧ Below x.heap.size x y := by
  obtain ⟨p, cap, rfl⟩ := h.shape
  obtain ⟨p', cap', rfl⟩ := h'.shape
  have H : Hid (SpsAt z x B E (.slice p L.length cap) L) := h
  have H' : Hid (SpsAt z' x C D (.slice p' L.length cap') L) := h'
  clear h h'
  generalize hL : L.length = n at H H'
  clear hL
  go_enter Try.func14, Try.ntmps14
  go_wp2_with fail
  have hbW : Below x.heap.size x ((x.alloc (.cells #[.bool a, .slice p n cap, .bool c, .int .i64 l, .int .i64 u] 37)).alloc (.cells #[.bool a, .slice p' n cap', .bool c, .int .i64 l, .int .i64 u] 37)) := by go_grown
  refine (eqSpanS_same _ z z' B E C D _ _ L (H.out.later hbW) (H'.out.later hbW)).mono ?_
  rintro e y ⟨rfl, hb⟩
  have k0 := ((Bx5.new x (.bool a) (.slice p n cap) (.bool c) (.int .i64 l) (.int .i64 u) 37).alloc (.cells #[.bool a, .slice p' n cap', .bool c, .int .i64 l, .int .i64 u] 37)).later hb
  have k1 := (Bx5.new (x.alloc _) (.bool a) (.slice p' n cap') (.bool c) (.int .i64 l) (.int .i64 u) 37).later hb
  simp at k1
  have hB : Below x.heap.size x y := hbW.trans (hb.mono (by simp; omega))
  obtain ⟨_, a0, a1, a2, a3, a4, _⟩ := k0
  obtain ⟨_, d0, d1, d2, d3, d4, _⟩ := k1
  clear hbW hb H H'
  go_wp2_with fail
  refine (eqSpan_same _ _ _ _).mono ?_
  rintro e w2 ⟨rfl, hb2⟩
  go_wp2_with fail
  go_ret
  exact ⟨rfl, hB.trans (hb2.mono hB.size)⟩
end Go.Proofs.Ytbjegekfghihkaa

/-
  Whether there is a procedure: the contracts of hasProc and l2Proc; of insAt; of comesBy and l12At.
-/
namespace Go.Proofs.Ytbjegekfghihkaa
open Go.RowKit
set_option linter.unusedVariables false
set_option linter.unusedSimpArgs false

theorem ProgAt.shape {x : World} {B : Nat} {v : Value} {P : List (List I4)} (h : ProgAt x B v P) : ∃ p cap, v = .slice p P.length cap ∧ P.length ≤ maxLen := by
  obtain ⟨p, cap, hv, hm, _⟩ := h
  exact ⟨p, cap, hv, hm⟩
/-- a procedure's code -/
theorem ProgAt.code {x : World} {B : Nat} {p : Option Addr} {cap : Nat} {P : List (List I4)} (h : ProgAt x B (.slice p P.length cap) P) {k : Nat} (hk : k < P.length) :
    ∃ g o u, p = some ⟨g, o, none⟩ ∧ g < x.heap.size ∧ x.cell? ⟨g, o + k, none⟩ = some u ∧ CodeAt x B u (P.getD k []) := by
  obtain ⟨p', cap', hv, _, hc⟩ := h
  injection hv with e1 e2 e3
  subst e1
  rcases hc with h0 | ⟨g, o, hp, _, hg, hj⟩
  · omega
  · obtain ⟨u, hu, hcu⟩ := hj k hk
    exact ⟨g, o, u, hp, hg, hu, hcu⟩
theorem CodeAt.ins {x : World} {B : Nat} {p : Option Addr} {cap : Nat} {c : List I4} (h : CodeAt x B (.slice p c.length cap) c) {j : Nat} (hj : j < c.length) :
    ∃ g o, p = some ⟨g, o, none⟩ ∧ g < x.heap.size ∧ Ins4 x g (o + j * 4) (c.getD j i0) := by
  obtain ⟨p', cap', hv, _, hc⟩ := h
  injection hv with e1 e2 e3
  subst e1
  rcases hc with h0 | ⟨g, o, hp, _, hg, hj'⟩
  · omega
  · exact ⟨g, o, hp, hg, hj' j hj⟩
theorem CodeAt.shape {x : World} {B : Nat} {v : Value} {c : List I4} (h : CodeAt x B v c) : ∃ p cap, v = .slice p c.length cap ∧ c.length ≤ maxLen := by
  obtain ⟨p, cap, hv, hm, _⟩ := h
  exact ⟨p, cap, hv, hm⟩
theorem progOkF_len {P : List (List I4)} (h : progOkF P = true) : 1 ≤ P.length ∧ P.length ≤ 4 := by
  simp only [progOkF, Bool.and_eq_true, decide_eq_true_eq] at h
  exact h.1
theorem progOkF_code {P : List (List I4)} (h : progOkF P = true) {k : Nat} (hk : k < P.length) : (P.getD k []).length ≤ 8 ∧ ∀ j, j < (P.getD k []).length → insOkF ((P.getD k []).getD j i0) (P.getD k []).length P.length = true := by
  simp only [progOkF, Bool.and_eq_true, List.all_eq_true] at h
  have hm : P.getD k [] ∈ P := by rw [List.getD, List.getElem?_eq_getElem hk]; simp
  have h2 := h.2 _ hm
  simp only [codeOkF, Bool.and_eq_true, decide_eq_true_eq, List.all_eq_true] at h2
  generalize P.getD k [] = C at h2
  exact ⟨h2.1, fun j hj => h2.2 _ (by rw [List.getD, List.getElem?_eq_getElem hj]; simp)⟩

/-- whether a program is ok and has that procedure -/
def hasPF (P : List (List I4)) (k : Int) : Bool := progOkF P && inI k 0 (P.length - 1)
theorem hasPF_at {P : List (List I4)} {k : Int} (h : hasPF P k = true) : ∃ n : Nat, k = n ∧ n < P.length ∧ progOkF P = true := by
  simp only [hasPF, inI, Bool.and_eq_true, decide_eq_true_eq] at h
  exact ⟨k.toNat, by omega, by omega, h.1⟩

set_option maxHeartbeats 1000000 in
theorem hasProc_impl (x : World) (B : Nat) (v : Value) (P : List (List I4)) (h : ProgAt x B v P) (k : Int) :
    Calls Try.prog 61 #[v, .int .i64 k] x fun e y => e = .returned (.bool (hasPF P k)) ∧ Below x.heap.size x y := by
  obtain ⟨p, cap, rfl, hm⟩ := h.shape
  have H : Hid (ProgAt x B (.slice p P.length cap) P) := h
  clear h hm
  go_enter Try.func61, Try.ntmps61
  go_wp2_with fail
  refine (progOk_impl _ _ _ P H.out).mono ?_
  rintro e y ⟨rfl, hb⟩
  cases hok : progOkF P
  · go_wp2_with fail
    go_ret
    exact ⟨retBool (by simp [hasPF, hok]), hb⟩
  · have hl := progOkF_len hok
    have hb1 : (P.length : Int) ≤ 4 := by omega
    go_wp2_with fail
    refine (hasProc_any P.length 0 k _).mono ?_
    rintro e z ⟨rfl, hb2⟩
    have hb3 := hb.trans (hb2.mono hb.size)
    go_wp2_with fail
    go_ret
    exact ⟨retBool (by simp [hasPF, hok]), hb3⟩

set_option maxHeartbeats 1000000 in
theorem l2Proc_any (x : World) (B : Nat) (v : Value) (P : List (List I4)) (h : ProgAt x B v P) (k : Int) :
    Calls Try.prog 57 #[v, .int .i64 k] x fun e y => e = .returned (.bool (hasPF P k)) ∧ Below x.heap.size x y := by
  obtain ⟨p, cap, rfl, hm⟩ := h.shape
  have H : Hid (ProgAt x B (.slice p P.length cap) P) := h
  clear h hm
  go_enter Try.func57, Try.ntmps57
  go_wp2_with fail
  refine (progOk_spec _ _ _ P H.out).mono ?_
  rintro e y ⟨rfl, hb⟩
  cases hok : progOkF P
  · go_wp2_with fail
    go_ret
    exact ⟨retBool (by simp [hasPF, hok]), hb⟩
  · have hl := progOkF_len hok
    have hb1 : (P.length : Int) ≤ 4 := by omega
    go_wp2_with fail
    refine (l6In_e _ _ _ _).mono ?_
    rintro e z ⟨rfl, rfl⟩
    go_wp2_with fail
    go_ret
    exact ⟨retBool (by simp [hasPF, hok]), hb⟩

/-- the instruction at a place, behind its interface; nil at the end -/
def insF (c : List I4) (at_ : Nat) : Value := if at_ = c.length then .nilIface else ifcF (c.getD at_ i0)

set_option maxHeartbeats 1000000 in
theorem insAt_impl (x : World) (B : Nat) (v : Value) (P : List (List I4)) (h : ProgAt x B v P) (k a : Nat) (hk : k < P.length) (hl : P.length ≤ 4) (ha : a ≤ (P.getD k []).length) (h8 : (P.getD k []).length ≤ 8) :
    Calls Try.prog 35 #[v, .int .i64 k, .int .i64 a] x fun e y => e = .returned (insF (P.getD k []) a) ∧ Below x.heap.size x y := by
  obtain ⟨p, cap, rfl, hm⟩ := h.shape
  obtain ⟨g, o, u, rfl, hg, hu, hc⟩ := h.code hk
  obtain ⟨pk, ck, rfl, _⟩ := hc.shape
  have HC : Hid (CodeAt x B (.slice pk (P.getD k []).length ck) (P.getD k [])) := hc
  clear hc h hm
  generalize P.getD k [] = C at *
  generalize P.length = n at *
  have hki : (k : Int) < (n : Int) := by omega
  have hn4 : (n : Int) ≤ 4 := by omega
  have hc8 : (C.length : Int) ≤ 8 := by omega
  by_cases he : a = C.length
  · have hf : insF C a = .nilIface := by simp [insF, he]
    rw [hf]
    clear hf
    subst he
    go_enter Try.func35, Try.ntmps35
    go_wp2_with fail
    go_ret
    exact ⟨rfl, Below.refl _ _⟩
  · have hf : insF C a = ifcF (C.getD a i0) := by simp [insF, he]
    rw [hf]
    clear hf
    obtain ⟨g2, o2, rfl, hg2, hI⟩ := HC.out.ins (j := a) (by omega)
    obtain ⟨q0, q1, q2, q3⟩ := hI
    clear HC
    generalize C.getD a i0 = I at *
    generalize C.length = m at *
    have hai : (a : Int) < (m : Int) := by omega
    have hne : ((a : Int) == (m : Int)) = false := by simp; omega
    go_enter Try.func35, Try.ntmps35
    go_wp2_with fail
    refine (instructionOf_any I _).mono ?_
    rintro e y ⟨rfl, hb⟩
    go_wp2_with fail
    go_ret
    exact ⟨rfl, hb⟩

/-- whether a place is one of a procedure's code -/
def placeF (P : List (List I4)) (k a : Int) : Bool := inI a 0 ((P.getD k.toNat []).length)
/-- whether one comes by a place with a state -/
def comesF (P : List (List I4)) (k at_ : Int) (a : Bool) (L : List Sp) (c : Sp) : Bool := hasPF P k && placeF P k at_ && stOk a L c && a

set_option maxHeartbeats 2000000 in
theorem comesBy_impl (x : World) (B : Nat) (v : Value) (P : List (List I4)) (h : ProgAt x B v P) (k at_ : Int) (z : Bool) (C E : Nat) (a : Bool) (s : Value) (L : List Sp) (c : Bool) (l u : Int) (hs : SpsAt z x C E s L) :
    Calls Try.prog 33 #[v, .int .i64 k, .int .i64 at_, .agg #[.bool a, s, .bool c, .int .i64 l, .int .i64 u]] x fun e y => e = .returned (.bool (comesF P k at_ a L (c, l, u))) ∧ Below x.heap.size x y := by
  obtain ⟨p, cap, rfl, hm⟩ := h.shape
  obtain ⟨ps, cs, rfl⟩ := hs.shape
  have H : Hid (ProgAt x B (.slice p P.length cap) P) := h
  have HS : Hid (SpsAt z x C E (.slice ps L.length cs) L) := hs
  clear h hm hs
  have HXB : Hid (Below x.heap.size x (x.alloc (.cells #[.bool a, .slice ps L.length cs, .bool c, .int .i64 l, .int .i64 u] 37))) := (Below.refl _ _).alloc (Nat.le_refl _) _
  have HBX : Hid (Bx5 (x.alloc (.cells #[.bool a, .slice ps L.length cs, .bool c, .int .i64 l, .int .i64 u] 37)) x.heap.size (.bool a) (.slice ps L.length cs) (.bool c) (.int .i64 l) (.int .i64 u)) := Bx5.new _ _ _ _ _ _ _
  go_enter Try.func33, Try.ntmps33
  go_wp2_with fail
  generalize x.alloc (.cells #[.bool a, .slice ps L.length cs, .bool c, .int .i64 l, .int .i64 u] 37) = X at HXB HBX ⊢
  refine (hasProc_impl X B _ P (H.out.later HXB.out) k).mono ?_
  rintro e y ⟨rfl, hb⟩
  have HY : Hid (Below x.heap.size x y) := HXB.out.trans (hb.mono HXB.out.size)
  have HBY : Hid (Bx5 y x.heap.size (.bool a) (.slice ps L.length cs) (.bool c) (.int .i64 l) (.int .i64 u)) := HBX.out.later hb
  clear hb HXB HBX
  cases hh : hasPF P k
  · go_wp2_with fail
    go_ret
    exact ⟨retBool (by simp [comesF, hh]), HY.out⟩
  · obtain ⟨kn, rfl, hkn, hok⟩ := hasPF_at hh
    have hl4 := (progOkF_len hok).2
    obtain ⟨g, o, uu, rfl, hg, hu, hc⟩ := H.out.code hkn
    obtain ⟨pk, ck, rfl, _⟩ := hc.shape
    have d0 := (HY.out.cell (p := ⟨g, o + kn, none⟩) hg).trans hu
    have HF : Hid (comesF P kn at_ a L (c, l, u) = (inI at_ 0 (P.getD kn []).length && stOk a L (c, l, u) && a)) := by
      show comesF P kn at_ a L (c, l, u) = _
      simp [comesF, hh, placeF]
    have h8 := (progOkF_code hok hkn).1
    clear hc hu hh hok H
    generalize P.getD kn [] = K at *
    generalize P.length = n at *
    have hki : (kn : Int) < (n : Int) := by omega
    have hn4 : (n : Int) ≤ 4 := by omega
    have hc8 : (K.length : Int) ≤ 8 := by omega
    go_wp2_with fail
    refine (hasPlace_any 0 K.length at_ _).mono ?_
    rintro e y2 ⟨rfl, hb2⟩
    have HY2 : Hid (Below x.heap.size x y2) := HY.out.trans (hb2.mono HY.out.size)
    have HB2 : Hid (Bx5 y2 x.heap.size (.bool a) (.slice ps L.length cs) (.bool c) (.int .i64 l) (.int .i64 u)) := HBY.out.later hb2
    clear hb2 HY HBY d0
    cases hp : inI at_ 0 K.length
    · go_wp2_with fail
      go_ret
      exact ⟨retBool (by rw [HF.out, hp]; simp), HY2.out⟩
    · obtain ⟨_, b0, b1, b2, b3, b4, _⟩ := HB2.out
      go_wp2_with fail
      refine (stOk_impl y2 z C E a _ L c l u (HS.out.later HY2.out)).mono ?_
      rintro e y3 ⟨rfl, hb3⟩
      have HY3 : Hid (Below x.heap.size x y3) := HY2.out.trans (hb3.mono HY2.out.size)
      have HB3 : Hid (Bx5 y3 x.heap.size (.bool a) (.slice ps L.length cs) (.bool c) (.int .i64 l) (.int .i64 u)) := HB2.out.later hb3
      clear hb3 HY2 HB2 b0 b1 b2 b3 b4
      cases hst : stOk a L (c, l, u)
      · go_wp2_with fail
        go_ret
        exact ⟨retBool (by rw [HF.out, hp, hst]; simp), HY3.out⟩
      · obtain ⟨_, b0, b1, b2, b3, b4, _⟩ := HB3.out
        go_wp2_with fail
        go_ret
        exact ⟨retBool (by rw [HF.out, hp, hst]; simp), HY3.out⟩

set_option maxHeartbeats 2000000 in
theorem l12At_any (x : World) (B : Nat) (v : Value) (P : List (List I4)) (h : ProgAt x B v P) (k at_ : Int) (z : Bool) (C E : Nat) (a : Bool) (s : Value) (L : List Sp) (c : Bool) (l u : Int) (hs : SpsAt z x C E s L) :
    Calls Try.prog 28 #[v, .int .i64 k, .int .i64 at_, .agg #[.bool a, s, .bool c, .int .i64 l, .int .i64 u]] x fun e y => e = .returned (.bool (hasPF P k && placeF P k at_ && stOk a L (c, l, u))) ∧ Below x.heap.size x y := by
  obtain ⟨p, cap, rfl, hm⟩ := h.shape
  obtain ⟨ps, cs, rfl⟩ := hs.shape
  have H : Hid (ProgAt x B (.slice p P.length cap) P) := h
  have HS : Hid (SpsAt z x C E (.slice ps L.length cs) L) := hs
  clear h hm hs
  have HXB : Hid (Below x.heap.size x (x.alloc (.cells #[.bool a, .slice ps L.length cs, .bool c, .int .i64 l, .int .i64 u] 37))) := (Below.refl _ _).alloc (Nat.le_refl _) _
  have HBX : Hid (Bx5 (x.alloc (.cells #[.bool a, .slice ps L.length cs, .bool c, .int .i64 l, .int .i64 u] 37)) x.heap.size (.bool a) (.slice ps L.length cs) (.bool c) (.int .i64 l) (.int .i64 u)) := Bx5.new _ _ _ _ _ _ _
  go_enter Try.func28, Try.ntmps28
  go_wp2_with fail
  generalize x.alloc (.cells #[.bool a, .slice ps L.length cs, .bool c, .int .i64 l, .int .i64 u] 37) = X at HXB HBX ⊢
  refine (l2Proc_any X B _ P (H.out.later HXB.out) k).mono ?_
  rintro e y ⟨rfl, hb⟩
  have HY : Hid (Below x.heap.size x y) := HXB.out.trans (hb.mono HXB.out.size)
  have HBY : Hid (Bx5 y x.heap.size (.bool a) (.slice ps L.length cs) (.bool c) (.int .i64 l) (.int .i64 u)) := HBX.out.later hb
  clear hb HXB HBX
  cases hh : hasPF P k
  · go_wp2_with fail
    go_ret
    exact ⟨retBool (by simp [hh]), HY.out⟩
  · obtain ⟨kn, rfl, hkn, hok⟩ := hasPF_at hh
    have hl4 := (progOkF_len hok).2
    obtain ⟨g, o, uu, rfl, hg, hu, hc⟩ := H.out.code hkn
    obtain ⟨pk, ck, rfl, _⟩ := hc.shape
    have d0 := (HY.out.cell (p := ⟨g, o + kn, none⟩) hg).trans hu
    have HF : Hid ((hasPF P kn && placeF P kn at_ && stOk a L (c, l, u)) = (inI at_ 0 (P.getD kn []).length && stOk a L (c, l, u))) := by
      show (hasPF P kn && placeF P kn at_ && stOk a L (c, l, u)) = _
      simp [hh, placeF]
    have h8 := (progOkF_code hok hkn).1
    clear hc hu hh hok H
    generalize P.getD kn [] = K at *
    generalize P.length = n at *
    have hki : (kn : Int) < (n : Int) := by omega
    have hn4 : (n : Int) ≤ 4 := by omega
    have hc8 : (K.length : Int) ≤ 8 := by omega
    go_wp2_with fail
    refine (l6In_e _ _ _ _).mono ?_
    rintro e y2 ⟨rfl, hy2⟩
    have hy3 := hy2.symm
    subst hy3
    cases hp : inI at_ 0 K.length
    · go_wp2_with fail
      go_ret
      exact ⟨retBool (by rw [HF.out, hp]; simp), HY.out⟩
    · obtain ⟨_, b0, b1, b2, b3, b4, _⟩ := HBY.out
      go_wp2_with fail
      refine (stOk_spec y z C E a _ L c l u (HS.out.later HY.out)).mono ?_
      rintro e y3 ⟨rfl, hb3⟩
      have HY3 : Hid (Below x.heap.size x y3) := HY.out.trans (hb3.mono HY.out.size)
      clear hb3 b0 b1 b2 b3 b4
      go_wp2_with fail
      go_ret
      exact ⟨retBool (by rw [HF.out, hp]; simp), HY3.out⟩

end Go.Proofs.Ytbjegekfghihkaa
