import Derived.Test.YtdomalclpjijaaaB8
import Derived.Test.YtdomalclpjijaaaB24
import Derived.Test.YtdomalclpjijaaaB5
/-
  The contracts of StateOk, the program's and the model's.
-/
namespace Go.Proofs.Ytdomalclpjijaaa
open Go.RowKit
set_option linter.unusedVariables false
set_option linter.unusedSimpArgs false

def someF (s : Sp) : Bool := s.1 && okF s.1 s.2.1 s.2.2
/-- whether a state is ok -/
def stOk (a : Bool) (L : List Sp) (c : Sp) : Bool := if a = true then decide (L.length = 3) && L.all someF && someF c else decide (L.length = 0) && decide (c = noSp)

set_option maxHeartbeats 400000 in
theorem hasWords_any (a : Bool) (l u : Int) (w : World) : Calls Try.prog 52 #[.agg #[.bool a, .int .i64 l, .int .i64 u]] w fun e w' => e = .returned (.bool (someF (a, l, u))) ∧ Below w.heap.size w w' := by
  unfold someF
  cases ho : okF a l u
  · go_enter Try.func52, Try.ntmps52
    go_wp2_with fail
    refine (ok_impl _ _ _ _ ).mono ?_
    rintro e w1 ⟨rfl, hb1⟩
    have hz1 : w.heap.size + 1 ≤ w1.heap.size := by have := hb1.size; first | omega | (simp at this; omega)
    obtain ⟨p1x0, q1x0, r1x0, f1x0, g1x0, h1x0⟩ := cell3 hb1 (w.heap.size) (by go_size)
    rw [ho]
    go_wp2
    go_ret
    exact ⟨ret_bool (by simp), ((Below.refl _ _).alloc (Nat.le_refl _) _).trans (hb1.mono (by go_size))⟩
  · go_enter Try.func52, Try.ntmps52
    go_wp2_with fail
    refine (ok_impl _ _ _ _ ).mono ?_
    rintro e w1 ⟨rfl, hb1⟩
    have hz1 : w.heap.size + 1 ≤ w1.heap.size := by have := hb1.size; first | omega | (simp at this; omega)
    obtain ⟨p1x0, q1x0, r1x0, f1x0, g1x0, h1x0⟩ := cell3 hb1 (w.heap.size) (by go_size)
    rw [ho]
    go_wp2
    go_ret
    exact ⟨ret_bool (by simp), ((Below.refl _ _).alloc (Nat.le_refl _) _).trans (hb1.mono (by go_size))⟩

theorem all_yes {L : List Sp} (f : Sp → Bool) (h : ∀ j, j < L.length → f (L.getD j noSp) = true) : L.all f = true := by
  rw [List.all_eq_true]
  intro s hs
  obtain ⟨j, hj, rfl⟩ := List.getElem_of_mem hs
  have := h j hj
  rwa [List.getD_eq_getElem?_getD, List.getElem?_eq_getElem hj] at this
theorem all_no {L : List Sp} (f : Sp → Bool) {j : Nat} (hj : j < L.length) (h : f (L.getD j noSp) = false) : L.all f = false := by
  rw [List.all_eq_false]
  refine ⟨L[j], List.getElem_mem hj, ?_⟩
  rw [List.getD_eq_getElem?_getD, List.getElem?_eq_getElem hj] at h
  simpa using h
/-- the box of a state that a call has made first of all -/
theorem box5 {x y : World} {v0 v1 v2 v3 v4 : Value} {t : TypeId} (hb : Below (x.heap.size + 1) (x.alloc (.cells #[v0, v1, v2, v3, v4] t)) y) :
    y.cell? ⟨x.heap.size, 0, none⟩ = some v0 ∧ y.cell? ⟨x.heap.size, 1, none⟩ = some v1 ∧ y.cell? ⟨x.heap.size, 2, none⟩ = some v2 ∧ y.cell? ⟨x.heap.size, 3, none⟩ = some v3 ∧ y.cell? ⟨x.heap.size, 4, none⟩ = some v4 :=
  ⟨(hb.cell (p := ⟨x.heap.size, 0, none⟩) (by simp)).trans (by simp [go_sem]), (hb.cell (p := ⟨x.heap.size, 1, none⟩) (by simp)).trans (by simp [go_sem]), (hb.cell (p := ⟨x.heap.size, 2, none⟩) (by simp)).trans (by simp [go_sem]), (hb.cell (p := ⟨x.heap.size, 3, none⟩) (by simp)).trans (by simp [go_sem]), (hb.cell (p := ⟨x.heap.size, 4, none⟩) (by simp)).trans (by simp [go_sem])⟩
theorem below_box {x y : World} {o : Obj} (hb : Below (x.heap.size + 1) (x.alloc o) y) : Below x.heap.size x y := ((Below.refl _ _).alloc (Nat.le_refl _) _).trans (hb.mono (by omega))
theorem box_go {X y z : World} {n : Nat} (h : Below n X y) (hn : n ≤ X.heap.size) (hb : Below y.heap.size y z) : Below n X z := h.trans (hb.mono (Nat.le_trans hn h.size))

set_option maxHeartbeats 1000000 in
theorem stOk_impl (x : World) (z : Bool) (B E : Nat) (a : Bool) (v : Value) (L : List Sp) (c : Bool) (l u : Int) (h : SpsAt z x B E v L) :
    Calls Try.prog 29 #[.agg #[.bool a, v, .bool c, .int .i64 l, .int .i64 u]] x fun e y => e = .returned (.bool (stOk a L (c, l, u))) ∧ Below x.heap.size x y := by
  obtain ⟨p, cap, rfl, hm, hc⟩ := h
  unfold maxLen at hm
  have hmi : (L.length : Int) ≤ 9223372036854775807 := by omega
  clear hm
  cases a
  · clear hc
    by_cases h0 : L.length = 0
    · rw [h0]
      cases c
      · go_enter Try.func29, Try.ntmps29
        go_wp2_with fail
        all_goals
          go_ret
          exact ⟨ret_bool (by simp_all [stOk, noSp]), by go_grown⟩
      · go_enter Try.func29, Try.ntmps29
        go_wp2_with fail
        all_goals
          go_ret
          exact ⟨ret_bool (by simp_all [stOk, noSp]), by go_grown⟩
    · have h0' : ¬ (L.length : Int) = 0 := by omega
      go_enter Try.func29, Try.ntmps29
      go_wp2_with fail
      all_goals
        go_ret
        exact ⟨ret_bool (by simp_all [stOk, noSp]), by go_grown⟩
  · by_cases h3 : L.length = 3
    · rcases hc with h0 | ⟨g, o, rfl, hBg, hgE, hEx, hf, hins⟩
      · omega
      have HX : Hid (∀ j, j < L.length → Spn x g (o + j * 3) (L.getD j noSp)) := hins
      clear hins hf
      have hgx : g < x.heap.size := by omega
      rw [h3]
      have H3 : Hid (L.length = 3) := h3
      clear h3 hmi
      go_enter Try.func29, Try.ntmps29
      go_wp2_with fail
      go_loopw [25] (fun t y => ∃ k : Nat, k ≤ 3 ∧ t = .int .i64 k ∧ Below (x.heap.size + 1) (x.alloc (.cells #[.bool true, .slice (some ⟨g, o, none⟩) 3 cap, .bool c, .int .i64 l, .int .i64 u] 31)) y ∧ (∀ j, j < k → someF (L.getD j noSp) = true)) (fun t _ => 3 - (intOf t).toNat)
      case atStart => exact ⟨0, by omega, rfl, Below.refl _ _, fun j hj => by omega⟩
      case round =>
        obtain ⟨k, hk, rfl, hB, hd⟩ := hrel
        have HD : Hid (∀ j, j < k → someF (L.getD j noSp) = true) := hd
        clear hd
        have hB0 := below_box hB
        by_cases hlt : k < 3
        · have hki : (k : Int) < 3 := by omega
          obtain ⟨q0, q1, q2⟩ := (HX.out k (by rw [H3.out]; exact hlt)).later hB0 hgx
          generalize hI : L.getD k noSp = I at q0 q1 q2
          have HII : Hid (L.getD k noSp = I) := hI
          clear hI
          obtain ⟨i0, i1, i2⟩ := I
          simp only at q0 q1 q2
          go_wp2_with fail
          refine (hasWords_any _ _ _ _).mono ?_
          rintro e w2 ⟨rfl, hb2⟩
          have hB2 := box_go (hB.alloc (by have := hB.size; simpa using this) _) (by simp) hb2
          cases hs : someF (i0, i1, i2)
          · go_wp2_with fail
            go_ret
            refine ⟨ret_bool ?_, below_box hB2⟩
            unfold stOk
            rw [if_pos rfl, all_no someF (by rw [H3.out]; exact hlt) (HII.out ▸ hs)]
            simp
          · go_wp2_with fail
            go_roundw
            case rel =>
              refine ⟨k + 1, by omega, by go_num, hB2, fun j hj => ?_⟩
              by_cases hjk : j = k
              · subst hjk; rw [HII.out]; exact hs
              · exact HD.out j (by omega)
            case measure => simp [intOf]; omega
        · obtain rfl : k = 3 := by omega
          obtain ⟨c0, c1, c2, c3, c4⟩ := box5 hB
          go_wp2_with fail
          refine (hasWords_any _ _ _ _).mono ?_
          rintro e w2 ⟨rfl, hb2⟩
          have hB2 := box_go hB (by simp) hb2
          go_wp2_with fail
          go_ret
          refine ⟨ret_bool ?_, below_box hB2⟩
          unfold stOk
          rw [if_pos rfl, all_yes someF (by rw [H3.out]; exact HD.out)]
          simp [H3.out]
    · have h3' : ¬ (L.length : Int) = 3 := by omega
      clear hc
      go_enter Try.func29, Try.ntmps29
      go_wp2_with fail
      all_goals
        go_ret
        exact ⟨ret_bool (by simp_all [stOk, noSp]), by go_grown⟩

theorem l1SomeS (a : Bool) (l u : Int) (w : World) : Calls Try.prog 48 #[.agg #[.bool a, .int .i64 l, .int .i64 u]] w fun e w' => e = .returned (.bool (someF (a, l, u))) ∧ Below w.heap.size w w' := l1Some_any a l u w

set_option maxHeartbeats 1000000 in
theorem stOk_spec (x : World) (z : Bool) (B E : Nat) (a : Bool) (v : Value) (L : List Sp) (c : Bool) (l u : Int) (h : SpsAt z x B E v L) :
    Calls Try.prog 22 #[.agg #[.bool a, v, .bool c, .int .i64 l, .int .i64 u]] x fun e y => e = .returned (.bool (stOk a L (c, l, u))) ∧ Below x.heap.size x y := by
  obtain ⟨p, cap, rfl, hm, hc⟩ := h
  unfold maxLen at hm
  have hmi : (L.length : Int) ≤ 9223372036854775807 := by omega
  clear hm
  cases a
  · clear hc
    by_cases h0 : L.length = 0
    · rw [h0]
      cases c
      · go_enter Try.func22, Try.ntmps22
        go_wp2_with fail
        all_goals
          go_ret
          exact ⟨ret_bool (by simp_all [stOk, noSp]), by go_grown⟩
      · go_enter Try.func22, Try.ntmps22
        go_wp2_with fail
        all_goals
          go_ret
          exact ⟨ret_bool (by simp_all [stOk, noSp]), by go_grown⟩
    · have h0' : ¬ (L.length : Int) = 0 := by omega
      go_enter Try.func22, Try.ntmps22
      go_wp2_with fail
      all_goals
        go_ret
        exact ⟨ret_bool (by simp_all [stOk, noSp]), by go_grown⟩
  · by_cases h3 : L.length = 3
    · rcases hc with h0 | ⟨g, o, rfl, hBg, hgE, hEx, hf, hins⟩
      · omega
      have HX : Hid (∀ j, j < L.length → Spn x g (o + j * 3) (L.getD j noSp)) := hins
      clear hins hf
      have hgx : g < x.heap.size := by omega
      rw [h3]
      have H3 : Hid (L.length = 3) := h3
      clear h3 hmi
      go_enter Try.func22, Try.ntmps22
      go_wp2_with fail
      refine (l1SomeS _ _ _ _).mono ?_
      rintro e w1 ⟨rfl, hb1⟩
      have hB1 := box_go (Below.refl (x.heap.size + 1) _) (by simp) hb1
      clear hb1
      cases hsc : someF (c, l, u)
      · go_wp2_with fail
        go_ret
        refine ⟨ret_bool ?_, below_box hB1⟩
        unfold stOk
        rw [if_pos rfl, hsc]
        simp
      · go_wp2_with fail
        go_loopw [3] (fun t y => ∃ k : Nat, k ≤ 3 ∧ t = .int .i64 k ∧ Below (x.heap.size + 1) (x.alloc (.cells #[.bool true, .slice (some ⟨g, o, none⟩) 3 cap, .bool c, .int .i64 l, .int .i64 u] 31)) y ∧ (∀ j, j < k → someF (L.getD j noSp) = true)) (fun t _ => 3 - (intOf t).toNat)
        case atStart => exact ⟨0, by omega, rfl, hB1, fun j hj => by omega⟩
        case round =>
          clear hB1
          obtain ⟨k, hk, rfl, hB, hd⟩ := hrel
          have HD : Hid (∀ j, j < k → someF (L.getD j noSp) = true) := hd
          clear hd
          have hB0 := below_box hB
          by_cases hlt : k < 3
          · have hki : (k : Int) < 3 := by omega
            obtain ⟨q0, q1, q2⟩ := (HX.out k (by rw [H3.out]; exact hlt)).later hB0 hgx
            obtain ⟨c0, c1, c2, c3, c4⟩ := box5 hB
            generalize hI : L.getD k noSp = I at q0 q1 q2
            have HII : Hid (L.getD k noSp = I) := hI
            clear hI
            obtain ⟨i0, i1, i2⟩ := I
            simp only at q0 q1 q2
            go_wp2_with fail
            refine (l1SomeS _ _ _ _).mono ?_
            rintro e w2 ⟨rfl, hb2⟩
            have hB2 := box_go hB (by simp) hb2
            clear c0 c1 c2 c3 c4 q0 q1 q2
            cases hs : someF (i0, i1, i2)
            · go_wp2_with fail
              go_ret
              refine ⟨ret_bool ?_, below_box hB2⟩
              unfold stOk
              rw [if_pos rfl, all_no someF (by rw [H3.out]; exact hlt) (HII.out ▸ hs)]
              simp
            · go_wp2_with fail
              go_roundw
              case rel =>
                refine ⟨k + 1, by omega, by go_num, hB2, fun j hj => ?_⟩
                by_cases hjk : j = k
                · subst hjk; rw [HII.out]; exact hs
                · exact HD.out j (by omega)
              case measure => simp [intOf]; omega
          · obtain rfl : k = 3 := by omega
            go_wp2_with fail
            go_ret
            refine ⟨ret_bool ?_, below_box hB⟩
            unfold stOk
            rw [if_pos rfl, all_yes someF (by rw [H3.out]; exact HD.out)]
            simp [H3.out, hsc]
    · have h3' : ¬ (L.length : Int) = 3 := by omega
      clear hc
      go_enter Try.func22, Try.ntmps22
      go_wp2_with fail
      all_goals
        go_ret
        exact ⟨ret_bool (by simp_all [stOk, noSp]), by go_grown⟩
end Go.Proofs.Ytdomalclpjijaaa

/-
  The contracts of StateIn, the program's and the model's.
-/
namespace Go.Proofs.Ytdomalclpjijaaa
open Go.RowKit Go.Shelf
set_option linter.unusedVariables false
set_option linter.unusedSimpArgs false
attribute [local go_sem] Oper.semAt_some

def inS (s t : Sp) : Bool := inF s.1 s.2.1 s.2.2 t.1 t.2.1 t.2.2
def stIn (a : Bool) (L : List Sp) (c : Sp) (b : Bool) (M : List Sp) (d : Sp) : Bool :=
  stOk a L c && stOk b M d && (if (a && b) = true then (upto (pairF L M c d) 4).all (fun p => inS p.1 p.2) else !a)
theorem inS_impl (a : Bool) (al ah : Int) (b : Bool) (bl bh : Int) (w : World) : Calls Try.prog 50 #[.agg #[.bool a, .int .i64 al, .int .i64 ah], .agg #[.bool b, .int .i64 bl, .int .i64 bh]] w fun e w' => e = .returned (.bool (inS (a, al, ah) (b, bl, bh))) ∧ Below w.heap.size w w' := in_impl a al ah b bl bh w
theorem stOk_len' {L : List Sp} {c : Sp} (h : stOk true L c = true) : L.length = 3 := by
  unfold stOk at h
  rw [if_pos rfl] at h
  simp at h
  exact h.1.1

theorem boxed_later {W W' : World} {B : Nat} {t : TypeId} {v : Value} (h : Boxed W B t v) (hb : Below W.heap.size W W') : Boxed W' B t v := (hb.block B h.lt).trans h
theorem keepsFrom_of_below {B : Nat} {W W' : World} (hb : Below W.heap.size W W') : KeepsFrom B W W' :=
  ⟨hb.size, fun k o _ hk _ => (hb.block k (Array.getElem?_eq_some_iff.1 hk).1).trans hk⟩
/-- a box of a span -/
def Bxs (W : World) (B : Nat) (s : Sp) : Prop := W.heap[B]? = some (.cells #[.bool s.1, .int .i64 s.2.1, .int .i64 s.2.2] 29 (0, 0))
theorem Bxs.lt {W : World} {B : Nat} {s : Sp} (h : Bxs W B s) : B < W.heap.size := (Array.getElem?_eq_some_iff.1 h).1
theorem Bxs.cells {W : World} {B : Nat} {s : Sp} (h : Bxs W B s) : W.cell? ⟨B, 0, none⟩ = some (.bool s.1) ∧ W.cell? ⟨B, 1, none⟩ = some (.int .i64 s.2.1) ∧ W.cell? ⟨B, 2, none⟩ = some (.int .i64 s.2.2) := by
  have h' : W.heap[B]? = some (.cells #[.bool s.1, .int .i64 s.2.1, .int .i64 s.2.2] 29 (0, 0)) := h
  simp [World.cell?, h']
theorem Bxs.new (W : World) (s : Sp) : Bxs (W.alloc (.cells #[.bool s.1, .int .i64 s.2.1, .int .i64 s.2.2] 29)) W.heap.size s := World.alloc_heap_new W _
theorem Bxs.alloc {W : World} {B : Nat} {s : Sp} (h : Bxs W B s) (o : Obj) : Bxs (W.alloc o) B s := (Below.heap_alloc W o B h.lt).trans h
theorem bxs_own {β : Type} (B : Nat) (f : β → Sp) : Own (fun s W => Bxs W B (f s)) := fun s X Y row hs hg hrow =>
  (hg.block B hs.lt (fun e' => by obtain ⟨o, ho, hc⟩ := hrow B e'.symm; rw [show X.heap[B]? = _ from hs] at ho; cases ho; cases hc)).trans hs

set_option maxHeartbeats 4000000 in
theorem stIn_early (x : World) (z z' : Bool) (B E C D : Nat) (a : Bool) (v : Value) (L : List Sp) (c : Bool) (l u : Int) (b : Bool) (v' : Value) (M : List Sp) (d : Bool) (l' u' : Int) (hh : (stOk a L (c, l, u) && stOk b M (d, l', u') && a && b) = false) (h : SpsAt z x B E v L) (h' : SpsAt z' x C D v' M) :
    Calls Try.prog 24 #[.agg #[.bool a, v, .bool c, .int .i64 l, .int .i64 u], .agg #[.bool b, v', .bool d, .int .i64 l', .int .i64 u']] x fun e y => e = .returned (.bool (stIn a L (c, l, u) b M (d, l', u'))) ∧ Below x.heap.size x y := by
  obtain ⟨p, cap, hv⟩ := h.shape
  obtain ⟨p', cap', hv'⟩ := h'.shape
  generalize hn : L.length = n at hv
  generalize hm : M.length = m at hv'
  subst hv hv'
  have HN : Hid (L.length = n) := hn
  have HM : Hid (M.length = m) := hm
  clear hn hm
  have hba : Below x.heap.size x (((x.alloc (.cells #[.bool a, .slice p n cap, .bool c, .int .i64 l, .int .i64 u] 31)).alloc (.cells #[.bool b, .slice p' m cap', .bool d, .int .i64 l', .int .i64 u'] 31)).alloc (.cells #[.bool false] 4)) := by go_grown
  have ka := ((Bx5.new x (.bool a) (.slice p n cap) (.bool c) (.int .i64 l) (.int .i64 u) 31).alloc (.cells #[.bool b, .slice p' m cap', .bool d, .int .i64 l', .int .i64 u'] 31)).alloc (.cells #[.bool false] 4)
  have kb := (Bx5.new (x.alloc (.cells #[.bool a, .slice p n cap, .bool c, .int .i64 l, .int .i64 u] 31)) (.bool b) (.slice p' m cap') (.bool d) (.int .i64 l') (.int .i64 u') 31).alloc (.cells #[.bool false] 4)
  have kr := Boxed.new ((x.alloc (.cells #[.bool a, .slice p n cap, .bool c, .int .i64 l, .int .i64 u] 31)).alloc (.cells #[.bool b, .slice p' m cap', .bool d, .int .i64 l', .int .i64 u'] 31)) 4 (.bool false)
  simp only [World.size_alloc] at kb kr
  have hZ : (((x.alloc (.cells #[.bool a, .slice p n cap, .bool c, .int .i64 l, .int .i64 u] 31)).alloc (.cells #[.bool b, .slice p' m cap', .bool d, .int .i64 l', .int .i64 u'] 31)).alloc (.cells #[.bool false] 4)).heap.size = x.heap.size + 3 := by simp
  have h3 := h.later hba
  have h3' := h'.later hba
  cases hoa : stOk a L (c, l, u)
  · go_enter Try.func24, Try.ntmps24
    go_wp2_with fail
    refine (stOk_impl _ z B E _ _ L _ _ _ h3).mono ?_
    rintro e w1 ⟨rfl, hb⟩
    rw [hoa]
    replace hba := hba.trans (hb.mono hba.size)
    replace ka := ka.later hb
    replace kb := kb.later hb
    replace kr := boxed_later kr hb
    replace h3 := h3.later hb
    replace h3' := h3'.later hb
    have hZ1 := hb.size
    clear hb
    obtain ⟨_, a0, a1, a2, a3, a4, _⟩ := id ka
    obtain ⟨_, b0, b1, b2, b3, b4, _⟩ := id kb
    have r0 := kr.cell
    have rf := kr.frozen
    go_wp2_with fail
    refine bodyPost_ret (v := .bool false) (by simp [results, Try.results24, go_sem, r0, rf, kr.lt]) rfl ⟨ret_bool ?_, ?_⟩
    · unfold stIn; rw [hoa]; simp
    · first | exact hba | exact hba.setCell (by first | (simp; done) | (simp; omega)) _
  cases hob : stOk b M (d, l', u')
  · go_enter Try.func24, Try.ntmps24
    go_wp2_with fail
    refine (stOk_impl _ z B E _ _ L _ _ _ h3).mono ?_
    rintro e w1 ⟨rfl, hb⟩
    rw [hoa]
    replace hba := hba.trans (hb.mono hba.size)
    replace ka := ka.later hb
    replace kb := kb.later hb
    replace kr := boxed_later kr hb
    replace h3 := h3.later hb
    replace h3' := h3'.later hb
    have hZ1 := hb.size
    clear hb
    obtain ⟨_, a0, a1, a2, a3, a4, _⟩ := id ka
    obtain ⟨_, b0, b1, b2, b3, b4, _⟩ := id kb
    have r0 := kr.cell
    have rf := kr.frozen
    go_wp2_with fail
    clear a0 a1 a2 a3 a4 b0 b1 b2 b3 b4 r0 rf
    refine (stOk_impl _ z' C D _ _ M _ _ _ h3').mono ?_
    rintro e w2 ⟨rfl, hb⟩
    rw [hob]
    replace hba := hba.trans (hb.mono hba.size)
    replace ka := ka.later hb
    replace kb := kb.later hb
    replace kr := boxed_later kr hb
    replace h3 := h3.later hb
    replace h3' := h3'.later hb
    have hZ2 := hb.size
    clear hb
    obtain ⟨_, a0, a1, a2, a3, a4, _⟩ := id ka
    obtain ⟨_, b0, b1, b2, b3, b4, _⟩ := id kb
    have r0 := kr.cell
    have rf := kr.frozen
    go_wp2_with fail
    refine bodyPost_ret (v := .bool false) (by simp [results, Try.results24, go_sem, r0, rf, kr.lt]) rfl ⟨ret_bool ?_, ?_⟩
    · unfold stIn; rw [hob]; simp
    · first | exact hba | exact hba.setCell (by first | (simp; done) | (simp; omega)) _
  cases a
  · go_enter Try.func24, Try.ntmps24
    go_wp2_with fail
    refine (stOk_impl _ z B E _ _ L _ _ _ h3).mono ?_
    rintro e w1 ⟨rfl, hb⟩
    rw [hoa]
    replace hba := hba.trans (hb.mono hba.size)
    replace ka := ka.later hb
    replace kb := kb.later hb
    replace kr := boxed_later kr hb
    replace h3 := h3.later hb
    replace h3' := h3'.later hb
    have hZ1 := hb.size
    clear hb
    obtain ⟨_, a0, a1, a2, a3, a4, _⟩ := id ka
    obtain ⟨_, b0, b1, b2, b3, b4, _⟩ := id kb
    have r0 := kr.cell
    have rf := kr.frozen
    go_wp2_with fail
    clear a0 a1 a2 a3 a4 b0 b1 b2 b3 b4 r0 rf
    refine (stOk_impl _ z' C D _ _ M _ _ _ h3').mono ?_
    rintro e w2 ⟨rfl, hb⟩
    rw [hob]
    replace hba := hba.trans (hb.mono hba.size)
    replace ka := ka.later hb
    replace kb := kb.later hb
    replace kr := boxed_later kr hb
    replace h3 := h3.later hb
    replace h3' := h3'.later hb
    have hZ2 := hb.size
    clear hb
    obtain ⟨_, a0, a1, a2, a3, a4, _⟩ := id ka
    obtain ⟨_, b0, b1, b2, b3, b4, _⟩ := id kb
    have r0 := kr.cell
    have rf := kr.frozen
    go_wp2_with fail
    refine bodyPost_ret (v := .bool true) (by simp [results, Try.results24, go_sem, r0, rf, kr.lt]) rfl ⟨ret_bool ?_, ?_⟩
    · unfold stIn; rw [hoa, hob]; simp
    · first | exact hba | exact hba.setCell (by first | (simp; done) | (simp; omega)) _
  cases b
  · go_enter Try.func24, Try.ntmps24
    go_wp2_with fail
    refine (stOk_impl _ z B E _ _ L _ _ _ h3).mono ?_
    rintro e w1 ⟨rfl, hb⟩
    rw [hoa]
    replace hba := hba.trans (hb.mono hba.size)
    replace ka := ka.later hb
    replace kb := kb.later hb
    replace kr := boxed_later kr hb
    replace h3 := h3.later hb
    replace h3' := h3'.later hb
    have hZ1 := hb.size
    clear hb
    obtain ⟨_, a0, a1, a2, a3, a4, _⟩ := id ka
    obtain ⟨_, b0, b1, b2, b3, b4, _⟩ := id kb
    have r0 := kr.cell
    have rf := kr.frozen
    go_wp2_with fail
    clear a0 a1 a2 a3 a4 b0 b1 b2 b3 b4 r0 rf
    refine (stOk_impl _ z' C D _ _ M _ _ _ h3').mono ?_
    rintro e w2 ⟨rfl, hb⟩
    rw [hob]
    replace hba := hba.trans (hb.mono hba.size)
    replace ka := ka.later hb
    replace kb := kb.later hb
    replace kr := boxed_later kr hb
    replace h3 := h3.later hb
    replace h3' := h3'.later hb
    have hZ2 := hb.size
    clear hb
    obtain ⟨_, a0, a1, a2, a3, a4, _⟩ := id ka
    obtain ⟨_, b0, b1, b2, b3, b4, _⟩ := id kb
    have r0 := kr.cell
    have rf := kr.frozen
    go_wp2_with fail
    refine bodyPost_ret (v := .bool false) (by simp [results, Try.results24, go_sem, r0, rf, kr.lt]) rfl ⟨ret_bool ?_, ?_⟩
    · unfold stIn; rw [hoa, hob]; simp
    · first | exact hba | exact hba.setCell (by first | (simp; done) | (simp; omega)) _
  rw [hoa, hob] at hh
  cases hh
end Go.Proofs.Ytdomalclpjijaaa
