import Derived.Test.YtdomalclpjijaaaB3
import Derived.Test.YtdomalclpjijaaaB26
import Derived.Test.YtdomalclpjijaaaB20
import Derived.Test.YtdomalclpjijaaaB25
import Derived.Test.YtdomalclpjijaaaB23
/-
  A box of five cells that is read.
-/
namespace Go.Proofs.Ytdomalclpjijaaa
open Go.RowKit
set_option linter.unusedVariables false

structure Rd5 (x : World) (m : Nat) (v0 v1 v2 v3 v4 : Value) : Prop where
  lt : m < x.heap.size
  c0 : x.cell? ⟨m, 0, none⟩ = some v0
  c1 : x.cell? ⟨m, 1, none⟩ = some v1
  c2 : x.cell? ⟨m, 2, none⟩ = some v2
  c3 : x.cell? ⟨m, 3, none⟩ = some v3
  c4 : x.cell? ⟨m, 4, none⟩ = some v4
theorem Rd5.later {x y : World} {m : Nat} {v0 v1 v2 v3 v4 : Value} (h : Rd5 x m v0 v1 v2 v3 v4) (hb : Below x.heap.size x y) : Rd5 y m v0 v1 v2 v3 v4 :=
  ⟨Nat.lt_of_lt_of_le h.lt hb.size, (hb.cell (p := ⟨m, 0, none⟩) h.lt).trans h.c0, (hb.cell (p := ⟨m, 1, none⟩) h.lt).trans h.c1, (hb.cell (p := ⟨m, 2, none⟩) h.lt).trans h.c2, (hb.cell (p := ⟨m, 3, none⟩) h.lt).trans h.c3, (hb.cell (p := ⟨m, 4, none⟩) h.lt).trans h.c4⟩
theorem Rd5.stay {x y : World} {m : Nat} {v0 v1 v2 v3 v4 : Value} (h : Rd5 x m v0 v1 v2 v3 v4) (hs : x.heap.size ≤ y.heap.size) (hc : ∀ k, y.cell? ⟨m, k, none⟩ = x.cell? ⟨m, k, none⟩) : Rd5 y m v0 v1 v2 v3 v4 :=
  ⟨Nat.lt_of_lt_of_le h.lt hs, (hc _).trans h.c0, (hc _).trans h.c1, (hc _).trans h.c2, (hc _).trans h.c3, (hc _).trans h.c4⟩
theorem Bx5.rd {x : World} {m : Nat} {v0 v1 v2 v3 v4 : Value} (h : Bx5 x m v0 v1 v2 v3 v4) : Rd5 x m v0 v1 v2 v3 v4 := ⟨h.lt, h.c0, h.c1, h.c2, h.c3, h.c4⟩
end Go.Proofs.Ytdomalclpjijaaa

/-
  What a law on two states and their join keeps: the arguments, and states in boxes with their rows.
-/
namespace Go.Proofs.Ytdomalclpjijaaa
open Go.RowKit
set_option linter.unusedVariables false
set_option linter.unusedSimpArgs false

theorem stB_len (wd a : Bool) (L : List Sp) (c : Sp) (b : Bool) (M : List Sp) (d : Sp) : (stBoth wd a L c b M d).2.1.length ≤ 3 := by
  unfold stBoth
  split
  · rename_i h
    simp only [Bool.and_eq_true] at h
    have h1 := stOk_len0 h.1
    have h2 := stOk_len0 h.2
    split
    · split
      · simp [row3]
      · simp only; omega
    · simp only; omega
  · simp [noSt]
/-- the arguments of a law on two states, as they lie -/
structure Ag (w y : World) (va vb : Value) (a c : Bool) (l u : Int) (b d : Bool) (l' u' : Int) (L M : List Sp) : Prop where
  below : Below w.heap.size w y
  ba : Bx5 y w.heap.size (.bool a) va (.bool c) (.int .i64 l) (.int .i64 u)
  bb : Bx5 y (w.heap.size + 1) (.bool b) vb (.bool d) (.int .i64 l') (.int .i64 u')
  ra : SpsAt false y 0 w.heap.size va L
  rb : SpsAt false y 0 w.heap.size vb M
theorem Ag.later {w y z : World} {va vb : Value} {a c : Bool} {l u : Int} {b d : Bool} {l' u' : Int} {L M : List Sp} (h : Ag w y va vb a c l u b d l' u' L M) (hb : Below y.heap.size y z) : Ag w z va vb a c l u b d l' u' L M :=
  ⟨h.below.trans (hb.mono h.below.size), h.ba.later hb, h.bb.later hb, h.ra.later hb, h.rb.later hb⟩
theorem Ag.within {w y z : World} {va vb : Value} {a c : Bool} {l u : Int} {b d : Bool} {l' u' : Int} {L M : List Sp} {B E : Nat} (h : Ag w y va vb a c l u b d l' u' L M) (hw : Within B E y z) (hB : w.heap.size + 2 ≤ B) : Ag w z va vb a c l u b d l' u' L M :=
  ⟨h.below.trans (hw.below.mono (by omega)), h.ba.within hw (.inl (by omega)), h.bb.within hw (.inl (by omega)), h.ra.within hw (.inl (by omega)), h.rb.within hw (.inl (by omega))⟩
/-- a state in a box, its row -/
structure Pr (y : World) (B N m : Nat) (a : Bool) (p : Option Addr) (n cap : Nat) (c : Bool) (l u : Int) (L : List Sp) : Prop where
  box : Bx5 y m (.bool a) (.slice p n cap) (.bool c) (.int .i64 l) (.int .i64 u)
  row : SpsAt true y B N (.slice p n cap) L
theorem Pr.later {y z : World} {B N m : Nat} {a : Bool} {p : Option Addr} {n cap : Nat} {c : Bool} {l u : Int} {L : List Sp} (h : Pr y B N m a p n cap c l u L) (hb : Below y.heap.size y z) : Pr z B N m a p n cap c l u L := ⟨h.box.later hb, h.row.later hb⟩
theorem Pr.within {y z : World} {B N m : Nat} {a : Bool} {p : Option Addr} {n cap : Nat} {c : Bool} {l u : Int} {L : List Sp} {B' E' : Nat} (h : Pr y B N m a p n cap c l u L) (hw : Within B' E' y z) (h1 : m < B' ∨ E' ≤ m) (h2 : N ≤ B' ∨ E' ≤ B) : Pr z B N m a p n cap c l u L := ⟨h.box.within hw h1, h.row.within hw h2⟩
theorem Pr.mark {y z : World} {B N m : Nat} {a : Bool} {p : Option Addr} {n cap : Nat} {c : Bool} {l u : Int} {L M : List Sp} {B' E' : Nat} (h : Pr y B N m a p n cap c l u L) (hw : Within B' E' y z) (h1 : m < B' ∨ E' ≤ m) (h2 : SpsAt true z B N (.slice p n cap) M) : Pr z B N m a p n cap c l u M := ⟨h.box.within hw h1, h2⟩
/-- a new box for a state whose row is new -/
theorem Pr.made {y : World} {B : Nat} {a : Bool} {p : Option Addr} {n cap : Nat} {c : Bool} {l u : Int} {L : List Sp} (t : TypeId) (h : SpsAt true y B y.heap.size (.slice p n cap) L) : Pr (y.alloc (.cells #[.bool a, .slice p n cap, .bool c, .int .i64 l, .int .i64 u] t)) B y.heap.size y.heap.size a p n cap c l u L :=
  ⟨Bx5.new _ _ _ _ _ _ _, h.later ((Below.refl _ _).alloc (Nat.le_refl _) _)⟩

end Go.Proofs.Ytdomalclpjijaaa

/-
  The walk of the law FnStateHas.
-/
namespace Go.Proofs.Ytdomalclpjijaaa
open Go.RowKit
set_option linter.unusedVariables false
set_option linter.unusedSimpArgs false

theorem has_main {L : List Sp} {c : Sp} {R C : List Int} (h : stOk true L c = true) (hR : R.length = 3) (hC : C.length = 3) : stHas true L c R C = (((List.range 3).all fun j => hasS (L.getD j noSp) (R.getD j 0)) && (List.range 3).all fun j => hasS c (C.getD j 0)) := by
  obtain ⟨c0, c1, c2, rfl⟩ : ∃ s0 s1 s2, C = [s0, s1, s2] := by
    match C, hC with
    | [a, b, c], _ => exact ⟨a, b, c, rfl⟩
  unfold stHas regsHas
  rw [h]
  simp [hR, List.range_succ]
theorem all_next {f : Nat → Bool} {k : Nat} {b : Bool} (h : b = (List.range k).all f) : (b && f k) = (List.range (k + 1)).all f := by
  rw [List.range_succ, List.all_append, ← h]; simp
theorem all_next2 {f : Nat → Bool} {k : Nat} {b c : Bool} (h : b = (c && (List.range k).all f)) : (b && f k) = (c && (List.range (k + 1)).all f) := by
  rw [List.range_succ, List.all_append, h]; simp [Bool.and_assoc]
theorem hid_of {p : Prop} (h : p) : Hid p := h
theorem hasS_of {l u n : Int} (h : -16 ≤ l ∧ l ≤ u ∧ u ≤ 15) : hasS (true, l, u) n = decide (l ≤ n ∧ n ≤ u) := by
  unfold hasS hasF; simp [okw h.1 h.2.1 h.2.2]

set_option maxRecDepth 100000 in
set_option maxHeartbeats 8000000 in
theorem stateHas_walk (a : Option Addr) (len cap : Nat) (zs : List Int) (w : World) (h : IsRow w a len cap zs) :
    Calls Try.prog 5 #[.slice a len cap] w fun e w' => e = .returned (.bool true) ∧ Below w.heap.size w w' := by
  have hm : len ≤ maxLen := by
    rcases h with ⟨rfl, rfl, rfl, rfl⟩ | ⟨x, rfl, hl, hm, hz, hcell, hwz⟩
    · unfold maxLen; omega
    · omega
  unfold maxLen at hm
  by_cases hl : (1048576 : Int) < (len : Int)
  · clear h
    go_enter Try.func5, Try.ntmps5
    go_wp2
    go_ret
    exact ⟨rfl, by go_grown⟩
  go_enter Try.func5, Try.ntmps5
  go_wp2_with fail
  refine (drawStateHas_any a len cap zs _ h).mono ?_
  rintro e x1 hg
  obtain ⟨a1, L1, c1, l1, u1, p1, cap1, p6, cap6, R, p7, cap7, C, rfl, hn1, hnR, hnC, hs1, h6, h7, hb⟩ := hg.it
  clear hg
  generalize hq1 : L1.length = n1 at hn1 hs1 ⊢
  generalize hqR : R.length = n6 at hnR h6 ⊢
  generalize hqC : C.length = n7 at hnC h7 ⊢
  have HQ1 : Hid ((L1.length = n1 ∧ R.length = n6) ∧ C.length = n7) := ⟨⟨hq1, hqR⟩, hqC⟩
  clear hq1 hqR hqC hn1
  have hA : Below x1.heap.size x1 (x1.alloc (.cells #[.bool a1, .slice p1 n1 cap1, .bool c1, .int .i64 l1, .int .i64 u1] 31)) := (Below.refl _ _).alloc (Nat.le_refl _) _
  have P1 : Hid (Pr (x1.alloc (.cells #[.bool a1, .slice p1 n1 cap1, .bool c1, .int .i64 l1, .int .i64 u1] 31)) w.heap.size x1.heap.size x1.heap.size a1 p1 n1 cap1 c1 l1 u1 L1) := ⟨Bx5.new _ _ _ _ _ _ _, hs1.later hA⟩
  have I6 : Hid (IntsAt true (x1.alloc (.cells #[.bool a1, .slice p1 n1 cap1, .bool c1, .int .i64 l1, .int .i64 u1] 31)) w.heap.size x1.heap.size (.slice p6 n6 cap6) R) := h6.later hA
  have I7 : Hid (IntsAt true (x1.alloc (.cells #[.bool a1, .slice p1 n1 cap1, .bool c1, .int .i64 l1, .int .i64 u1] 31)) w.heap.size x1.heap.size (.slice p7 n7 cap7) C) := h7.later hA
  have HB : Hid (Below w.heap.size w (x1.alloc (.cells #[.bool a1, .slice p1 n1 cap1, .bool c1, .int .i64 l1, .int .i64 u1] 31))) := hb.trans (hA.mono hb.size)
  have HNN : Hid (n6 ≤ 3 ∧ n7 ≤ 4) := ⟨hnR, hnC⟩
  have hn6i : (n6 : Int) ≤ 3 := by omega
  have hn7i : (n7 : Int) ≤ 4 := by omega
  clear hA hs1 h6 h7 hb h hnR hnC
  obtain ⟨_, P1_0, P1_1, P1_2, P1_3, P1_4, _⟩ := P1.out.box
  go_wp2_with fail
  clear P1_0 P1_1 P1_2 P1_3 P1_4
  generalize (x1.alloc (.cells #[.bool a1, .slice p1 n1 cap1, .bool c1, .int .i64 l1, .int .i64 u1] 31)) = y1 at P1 I6 I7 HB ⊢
  obtain ⟨hh, hhe⟩ : ∃ z, stHas a1 L1 (c1, l1, u1) R C = z := ⟨_, rfl⟩
  refine (stHas_impl _ true true true _ _ _ _ _ _ _ _ _ _ L1 _ _ _ R C P1.out.row I6.out I7.out).mono ?_
  rintro e z0 ⟨rfl, hb⟩
  rw [hhe]
  replace HB : Hid (Below w.heap.size w z0) := HB.out.trans (hb.mono HB.out.size)
  replace P1 : Hid (Pr z0 w.heap.size x1.heap.size x1.heap.size a1 p1 n1 cap1 c1 l1 u1 L1) := P1.out.later hb
  replace I6 : Hid (IntsAt true z0 w.heap.size x1.heap.size (.slice p6 n6 cap6) R) := I6.out.later hb
  replace I7 : Hid (IntsAt true z0 w.heap.size x1.heap.size (.slice p7 n7 cap7) C) := I7.out.later hb
  clear hb
  have HH : Hid (stHas a1 L1 (c1, l1, u1) R C = hh) := hhe
  clear hhe
  cases hh
  · skip
    obtain ⟨_, P1_0, P1_1, P1_2, P1_3, P1_4, _⟩ := P1.out.box
    go_wp2_with fail
    refine (stHas_spec _ true true true _ _ _ _ _ _ _ _ _ _ L1 _ _ _ R C P1.out.row I6.out I7.out).mono ?_
    rintro e z1 ⟨rfl, hb⟩
    clear P1_0 P1_1 P1_2 P1_3 P1_4
    rw [HH.out]
    replace HB : Hid (Below w.heap.size w z1) := HB.out.trans (hb.mono HB.out.size)
    replace P1 : Hid (Pr z1 w.heap.size x1.heap.size x1.heap.size a1 p1 n1 cap1 c1 l1 u1 L1) := P1.out.later hb
    replace I6 : Hid (IntsAt true z1 w.heap.size x1.heap.size (.slice p6 n6 cap6) R) := I6.out.later hb
    replace I7 : Hid (IntsAt true z1 w.heap.size x1.heap.size (.slice p7 n7 cap7) C) := I7.out.later hb
    clear hb
    cases hoa : stOk a1 L1 (c1, l1, u1)
    · skip
      have HA : Hid (stOk a1 L1 (c1, l1, u1) = false) := hoa
      clear hoa
      obtain ⟨_, P1_0, P1_1, P1_2, P1_3, P1_4, _⟩ := P1.out.box
      go_wp2_with fail
      refine (stOk_spec _ true _ _ _ _ L1 _ _ _ P1.out.row).mono ?_
      rintro e z2 ⟨rfl, hb⟩
      clear P1_0 P1_1 P1_2 P1_3 P1_4
      rw [HA.out]
      replace HB : Hid (Below w.heap.size w z2) := HB.out.trans (hb.mono HB.out.size)
      replace P1 : Hid (Pr z2 w.heap.size x1.heap.size x1.heap.size a1 p1 n1 cap1 c1 l1 u1 L1) := P1.out.later hb
      replace I6 : Hid (IntsAt true z2 w.heap.size x1.heap.size (.slice p6 n6 cap6) R) := I6.out.later hb
      replace I7 : Hid (IntsAt true z2 w.heap.size x1.heap.size (.slice p7 n7 cap7) C) := I7.out.later hb
      clear hb
      obtain ⟨_, P1_0, P1_1, P1_2, P1_3, P1_4, _⟩ := P1.out.box
      go_wp2_with fail
      refine (stHas_spec _ true true true _ _ _ _ _ _ _ _ _ _ L1 _ _ _ R C P1.out.row I6.out I7.out).mono ?_
      rintro e z3 ⟨rfl, hb⟩
      clear P1_0 P1_1 P1_2 P1_3 P1_4
      rw [HH.out]
      replace HB : Hid (Below w.heap.size w z3) := HB.out.trans (hb.mono HB.out.size)
      replace P1 : Hid (Pr z3 w.heap.size x1.heap.size x1.heap.size a1 p1 n1 cap1 c1 l1 u1 L1) := P1.out.later hb
      replace I6 : Hid (IntsAt true z3 w.heap.size x1.heap.size (.slice p6 n6 cap6) R) := I6.out.later hb
      replace I7 : Hid (IntsAt true z3 w.heap.size x1.heap.size (.slice p7 n7 cap7) C) := I7.out.later hb
      clear hb
      obtain ⟨_, P1_0, P1_1, P1_2, P1_3, P1_4, _⟩ := P1.out.box
      go_wp2_with fail
      go_ret
      exact ⟨rfl, HB.out⟩
    · skip
      have HA : Hid (stOk a1 L1 (c1, l1, u1) = true) := hoa
      clear hoa
      obtain ⟨_, P1_0, P1_1, P1_2, P1_3, P1_4, _⟩ := P1.out.box
      go_wp2_with fail
      refine (stOk_spec _ true _ _ _ _ L1 _ _ _ P1.out.row).mono ?_
      rintro e z4 ⟨rfl, hb⟩
      clear P1_0 P1_1 P1_2 P1_3 P1_4
      rw [HA.out]
      replace HB : Hid (Below w.heap.size w z4) := HB.out.trans (hb.mono HB.out.size)
      replace P1 : Hid (Pr z4 w.heap.size x1.heap.size x1.heap.size a1 p1 n1 cap1 c1 l1 u1 L1) := P1.out.later hb
      replace I6 : Hid (IntsAt true z4 w.heap.size x1.heap.size (.slice p6 n6 cap6) R) := I6.out.later hb
      replace I7 : Hid (IntsAt true z4 w.heap.size x1.heap.size (.slice p7 n7 cap7) C) := I7.out.later hb
      clear hb
      cases a1
      · skip
        obtain ⟨_, P1_0, P1_1, P1_2, P1_3, P1_4, _⟩ := P1.out.box
        go_wp2_with fail
        refine (stHas_spec _ true true true _ _ _ _ _ _ _ _ _ _ L1 _ _ _ R C P1.out.row I6.out I7.out).mono ?_
        rintro e z5 ⟨rfl, hb⟩
        clear P1_0 P1_1 P1_2 P1_3 P1_4
        rw [HH.out]
        replace HB : Hid (Below w.heap.size w z5) := HB.out.trans (hb.mono HB.out.size)
        replace P1 : Hid (Pr z5 w.heap.size x1.heap.size x1.heap.size false p1 n1 cap1 c1 l1 u1 L1) := P1.out.later hb
        replace I6 : Hid (IntsAt true z5 w.heap.size x1.heap.size (.slice p6 n6 cap6) R) := I6.out.later hb
        replace I7 : Hid (IntsAt true z5 w.heap.size x1.heap.size (.slice p7 n7 cap7) C) := I7.out.later hb
        clear hb
        obtain ⟨_, P1_0, P1_1, P1_2, P1_3, P1_4, _⟩ := P1.out.box
        go_wp2_with fail
        go_ret
        exact ⟨rfl, HB.out⟩
      · skip
        by_cases h6n : n6 = 3
        · skip
          subst h6n
          by_cases h7n : n7 = 3
          · skip
            subst h7n
            have hR3 : R.length = 3 := HQ1.out.1.2
            have hC3 : C.length = 3 := HQ1.out.2
            have hall := has_main (R := R) (C := C) HA.out hR3 hC3
            rw [HH.out] at hall
            have HALL : Hid (false = (((List.range 3).all fun j => hasS (L1.getD j noSp) (R.getD j 0)) && (List.range 3).all fun j => hasS (c1, l1, u1) (C.getD j 0))) := hall
            clear hall
            have hf : ∃ s0 s1 s2, L1 = [s0, s1, s2] ∧ someF s0 = true ∧ someF s1 = true ∧ someF s2 = true ∧ someF (c1, l1, u1) = true := by
              rcases ok_form HA.out with ⟨h0, _⟩ | ⟨_, s0, s1, s2, e, h0, h1, h2, h3⟩
              · cases h0
              · exact ⟨s0, s1, s2, e, h0, h1, h2, h3⟩
            have HF : Hid (∃ s0 s1 s2, L1 = [s0, s1, s2] ∧ someF s0 = true ∧ someF s1 = true ∧ someF s2 = true ∧ someF (c1, l1, u1) = true) := hf
            clear hf
            have hn1 : n1 = 3 := HQ1.out.1.1.symm.trans (stOk_len' HA.out)
            subst hn1
            obtain ⟨gg, oo, hp1, hgx, hgs⟩ := P1.out.row.three HQ1.out.1.1
            subst hp1
            obtain ⟨g6, o6, hp6, i6⟩ : ∃ g6 o6, p6 = some ⟨g6, o6, none⟩ ∧ ∀ j, j < 3 → z4.cell? ⟨g6, o6 + j, none⟩ = some (.int .i64 (R.getD j 0)) := by
              obtain ⟨pp, cc, hv, _, hq⟩ := I6.out
              injection hv with e1
              rcases hq with h0 | ⟨g6, o6, hp, _, _, _, _, hj⟩
              · omega
              · exact ⟨g6, o6, e1.trans hp, fun j hj3 => hj j (by omega)⟩
            obtain ⟨g7, o7, hp7, i7⟩ : ∃ g7 o7, p7 = some ⟨g7, o7, none⟩ ∧ ∀ j, j < 3 → z4.cell? ⟨g7, o7 + j, none⟩ = some (.int .i64 (C.getD j 0)) := by
              obtain ⟨pp, cc, hv, _, hq⟩ := I7.out
              injection hv with e1
              rcases hq with h0 | ⟨g6, o6, hp, _, _, _, _, hj⟩
              · omega
              · exact ⟨g6, o6, e1.trans hp, fun j hj3 => hj j (by omega)⟩
            subst hp6 hp7
            have HX : Hid ((∀ j, j < 3 → Spn z4 gg (oo + j * 3) (L1.getD j noSp)) ∧ (∀ j, j < 3 → z4.cell? ⟨g6, o6 + j, none⟩ = some (.int .i64 (R.getD j 0))) ∧ (∀ j, j < 3 → z4.cell? ⟨g7, o7 + j, none⟩ = some (.int .i64 (C.getD j 0)))) := ⟨hgs, i6, i7⟩
            clear hgs i6 i7
            obtain ⟨_, P1_0, P1_1, P1_2, P1_3, P1_4, _⟩ := P1.out.box
            go_wp2_with fail
            clear P1_0 P1_1 P1_2 P1_3 P1_4
            go_loopw [7, 8] (fun s t y => ∃ (k : Nat) (b1 : Bool), k ≤ 3 ∧ t = .int .i64 k ∧ s = .bool b1 ∧ Hid (b1 = (List.range k).all fun j => hasS (L1.getD j noSp) (R.getD j 0)) ∧ ∃ q, y = z4.drewN q) (fun _ t _ => 3 - (intOf t).toNat)
            case atStart => exact ⟨0, true, by omega, rfl, rfl, rfl, 0, rfl⟩
            case round =>
              obtain ⟨k, b1, hk, rfl, rfl, hb1, q, rfl⟩ := hrel
              by_cases hlt : k < 3
              · have hki : (k : Int) < 3 := by omega
                have hk9 : someF (L1.getD k noSp) = true := by
                  obtain ⟨s0, s1, s2, rfl, h0, h1, h2, _⟩ := HF.out
                  match k, hlt with
                  | 0, _ => exact h0
                  | 1, _ => exact h1
                  | 2, _ => exact h2
                  | k + 3, hh => omega
                obtain ⟨lo, hi, hsp, hbd⟩ := some_form hk9
                obtain ⟨q0, q1, q2⟩ := HX.out.1 k hlt
                rw [hsp] at q0 q1 q2
                simp only at q0 q1 q2
                have i0 := HX.out.2.1 k hlt
                generalize hnn : R.getD k 0 = nn at i0
                have HS : Hid (hasS (L1.getD k noSp) (R.getD k 0) = decide (lo ≤ nn ∧ nn ≤ hi)) := hid_of (by rw [hsp, hnn]; exact hasS_of hbd)
                have x1_ := P1.out.box.c1
                clear hk9 hsp hnn
                cases b1
                · skip
                  go_wp2_with fail
                  go_quiet (fail)
                  go_wp2_with fail
                  go_roundw
                  case rel => exact ⟨k + 1, false, by omega, by go_num, rfl, (all_next hb1.out), _, rfl⟩
                  case measure => simp [intOf]; omega
                · by_cases h1 : lo ≤ nn
                  · by_cases h2 : nn ≤ hi
                    · skip
                      go_wp2_with fail
                      go_quiet (fail)
                      go_wp2_with fail
                      go_roundw
                      case rel => exact ⟨k + 1, true, by omega, by go_num, rfl, ((show (true && hasS (L1.getD k noSp) (R.getD k 0)) = true by rw [HS.out]; exact decide_eq_true (by omega)).symm.trans (all_next hb1.out)), _, rfl⟩
                      case measure => simp [intOf]; omega
                    · have d2 : decide (nn ≤ hi) = false := decide_eq_false h2
                      go_wp2_with fail
                      go_quiet (fail)
                      go_wp2_with fail
                      go_roundw
                      case rel => exact ⟨k + 1, false, by omega, by go_num, rfl, ((show (true && hasS (L1.getD k noSp) (R.getD k 0)) = false by rw [HS.out]; exact decide_eq_false (by omega)).symm.trans (all_next hb1.out)), _, rfl⟩
                      case measure => simp [intOf]; omega
                  · have d1 : decide (lo ≤ nn) = false := decide_eq_false h1
                    go_wp2_with fail
                    go_quiet (fail)
                    go_wp2_with fail
                    go_roundw
                    case rel => exact ⟨k + 1, false, by omega, by go_num, rfl, ((show (true && hasS (L1.getD k noSp) (R.getD k 0)) = false by rw [HS.out]; exact decide_eq_false (by omega)).symm.trans (all_next hb1.out)), _, rfl⟩
                    case measure => simp [intOf]; omega
              · have hk3 : k = 3 := by omega
                have hki : ¬ (k : Int) < 3 := by omega
                have HB1 : Hid (b1 = (List.range 3).all fun j => hasS (L1.getD j noSp) (R.getD j 0)) := (by have h9 := hb1.out; rw [hk3] at h9; exact h9)
                clear hb1
                go_wp2_with fail
                go_loopw [7, 9] (fun s t y => ∃ (k : Nat) (b2 : Bool), k ≤ 3 ∧ t = .int .i64 k ∧ s = .bool b2 ∧ Hid (b2 = (b1 && (List.range k).all fun j => hasS (c1, l1, u1) (C.getD j 0))) ∧ ∃ q, y = z4.drewN q) (fun _ t _ => 3 - (intOf t).toNat)
                case atStart => exact ⟨0, b1, by omega, rfl, rfl, hid_of (by simp), q, rfl⟩
                case round =>
                  obtain ⟨k, b2, hk, rfl, rfl, hb2, q2, rfl⟩ := hrel
                  by_cases hlt : k < 3
                  · have hki : (k : Int) < 3 := by omega
                    have hk9 : someF (c1, l1, u1) = true := by obtain ⟨_, _, _, _, _, _, _, h3⟩ := HF.out; exact h3
                    obtain ⟨lo, hi, hsp, hbd⟩ := some_form hk9
                    simp only [Prod.mk.injEq] at hsp
                    have i0 := HX.out.2.2 k hlt
                    generalize hnn : C.getD k 0 = nn at i0
                    have HS : Hid (hasS (c1, l1, u1) (C.getD k 0) = decide (lo ≤ nn ∧ nn ≤ hi)) := hid_of (by rw [hsp.1, hsp.2.1, hsp.2.2, hnn]; exact hasS_of hbd)
                    have x3_ := P1.out.box.c3
                    have x4_ := P1.out.box.c4
                    rw [hsp.2.1] at x3_
                    rw [hsp.2.2] at x4_
                    clear hk9 hnn hsp
                    cases b2
                    · skip
                      go_wp2_with fail
                      go_quiet (fail)
                      go_wp2_with fail
                      go_roundw
                      case rel => exact ⟨k + 1, false, by omega, by go_num, rfl, (all_next2 hb2.out), _, rfl⟩
                      case measure => simp [intOf]; omega
                    · by_cases h1 : lo ≤ nn
                      · by_cases h2 : nn ≤ hi
                        · skip
                          go_wp2_with fail
                          go_quiet (fail)
                          go_wp2_with fail
                          go_roundw
                          case rel => exact ⟨k + 1, true, by omega, by go_num, rfl, ((show (true && hasS (c1, l1, u1) (C.getD k 0)) = true by rw [HS.out]; exact decide_eq_true (by omega)).symm.trans (all_next2 hb2.out)), _, rfl⟩
                          case measure => simp [intOf]; omega
                        · have d2 : decide (nn ≤ hi) = false := decide_eq_false h2
                          go_wp2_with fail
                          go_quiet (fail)
                          go_wp2_with fail
                          go_roundw
                          case rel => exact ⟨k + 1, false, by omega, by go_num, rfl, ((show (true && hasS (c1, l1, u1) (C.getD k 0)) = false by rw [HS.out]; exact decide_eq_false (by omega)).symm.trans (all_next2 hb2.out)), _, rfl⟩
                          case measure => simp [intOf]; omega
                      · have d1 : decide (lo ≤ nn) = false := decide_eq_false h1
                        go_wp2_with fail
                        go_quiet (fail)
                        go_wp2_with fail
                        go_roundw
                        case rel => exact ⟨k + 1, false, by omega, by go_num, rfl, ((show (true && hasS (c1, l1, u1) (C.getD k 0)) = false by rw [HS.out]; exact decide_eq_false (by omega)).symm.trans (all_next2 hb2.out)), _, rfl⟩
                        case measure => simp [intOf]; omega
                  · have hk3 : k = 3 := by omega
                    have hki : ¬ (k : Int) < 3 := by omega
                    have h9 := hb2.out
                    rw [hk3, HB1.out] at h9
                    have hz : b2 = false := h9.trans HALL.out.symm
                    clear h9
                    subst hz
                    go_wp2_with fail
                    go_ret
                    exact ⟨rfl, HB.out.trans ((belowN z4 q2).mono HB.out.size)⟩
          · skip
            have h7i : ¬ (n7 : Int) = 3 := by omega
            obtain ⟨_, P1_0, P1_1, P1_2, P1_3, P1_4, _⟩ := P1.out.box
            go_wp2_with fail
            refine (stHas_spec _ true true true _ _ _ _ _ _ _ _ _ _ L1 _ _ _ R C P1.out.row I6.out I7.out).mono ?_
            rintro e z6 ⟨rfl, hb⟩
            clear P1_0 P1_1 P1_2 P1_3 P1_4
            rw [HH.out]
            replace HB : Hid (Below w.heap.size w z6) := HB.out.trans (hb.mono HB.out.size)
            replace P1 : Hid (Pr z6 w.heap.size x1.heap.size x1.heap.size true p1 n1 cap1 c1 l1 u1 L1) := P1.out.later hb
            replace I6 : Hid (IntsAt true z6 w.heap.size x1.heap.size (.slice p6 3 cap6) R) := I6.out.later hb
            replace I7 : Hid (IntsAt true z6 w.heap.size x1.heap.size (.slice p7 n7 cap7) C) := I7.out.later hb
            clear hb
            obtain ⟨_, P1_0, P1_1, P1_2, P1_3, P1_4, _⟩ := P1.out.box
            go_wp2_with fail
            go_ret
            exact ⟨rfl, HB.out⟩
        · skip
          have h6i : ¬ (n6 : Int) = 3 := by omega
          obtain ⟨_, P1_0, P1_1, P1_2, P1_3, P1_4, _⟩ := P1.out.box
          go_wp2_with fail
          refine (stHas_spec _ true true true _ _ _ _ _ _ _ _ _ _ L1 _ _ _ R C P1.out.row I6.out I7.out).mono ?_
          rintro e z7 ⟨rfl, hb⟩
          clear P1_0 P1_1 P1_2 P1_3 P1_4
          rw [HH.out]
          replace HB : Hid (Below w.heap.size w z7) := HB.out.trans (hb.mono HB.out.size)
          replace P1 : Hid (Pr z7 w.heap.size x1.heap.size x1.heap.size true p1 n1 cap1 c1 l1 u1 L1) := P1.out.later hb
          replace I6 : Hid (IntsAt true z7 w.heap.size x1.heap.size (.slice p6 n6 cap6) R) := I6.out.later hb
          replace I7 : Hid (IntsAt true z7 w.heap.size x1.heap.size (.slice p7 n7 cap7) C) := I7.out.later hb
          clear hb
          obtain ⟨_, P1_0, P1_1, P1_2, P1_3, P1_4, _⟩ := P1.out.box
          go_wp2_with fail
          go_ret
          exact ⟨rfl, HB.out⟩
  · skip
    obtain ⟨_, P1_0, P1_1, P1_2, P1_3, P1_4, _⟩ := P1.out.box
    go_wp2_with fail
    refine (stHas_spec _ true true true _ _ _ _ _ _ _ _ _ _ L1 _ _ _ R C P1.out.row I6.out I7.out).mono ?_
    rintro e z8 ⟨rfl, hb⟩
    clear P1_0 P1_1 P1_2 P1_3 P1_4
    rw [HH.out]
    replace HB : Hid (Below w.heap.size w z8) := HB.out.trans (hb.mono HB.out.size)
    replace P1 : Hid (Pr z8 w.heap.size x1.heap.size x1.heap.size a1 p1 n1 cap1 c1 l1 u1 L1) := P1.out.later hb
    replace I6 : Hid (IntsAt true z8 w.heap.size x1.heap.size (.slice p6 n6 cap6) R) := I6.out.later hb
    replace I7 : Hid (IntsAt true z8 w.heap.size x1.heap.size (.slice p7 n7 cap7) C) := I7.out.later hb
    clear hb
    cases hoa : stOk a1 L1 (c1, l1, u1)
    · skip
      have HA : Hid (stOk a1 L1 (c1, l1, u1) = false) := hoa
      clear hoa
      obtain ⟨_, P1_0, P1_1, P1_2, P1_3, P1_4, _⟩ := P1.out.box
      go_wp2_with fail
      refine (stOk_spec _ true _ _ _ _ L1 _ _ _ P1.out.row).mono ?_
      rintro e z9 ⟨rfl, hb⟩
      clear P1_0 P1_1 P1_2 P1_3 P1_4
      rw [HA.out]
      replace HB : Hid (Below w.heap.size w z9) := HB.out.trans (hb.mono HB.out.size)
      replace P1 : Hid (Pr z9 w.heap.size x1.heap.size x1.heap.size a1 p1 n1 cap1 c1 l1 u1 L1) := P1.out.later hb
      replace I6 : Hid (IntsAt true z9 w.heap.size x1.heap.size (.slice p6 n6 cap6) R) := I6.out.later hb
      replace I7 : Hid (IntsAt true z9 w.heap.size x1.heap.size (.slice p7 n7 cap7) C) := I7.out.later hb
      clear hb
      obtain ⟨_, P1_0, P1_1, P1_2, P1_3, P1_4, _⟩ := P1.out.box
      go_wp2_with fail
      refine (stHas_spec _ true true true _ _ _ _ _ _ _ _ _ _ L1 _ _ _ R C P1.out.row I6.out I7.out).mono ?_
      rintro e z10 ⟨rfl, hb⟩
      clear P1_0 P1_1 P1_2 P1_3 P1_4
      rw [HH.out]
      replace HB : Hid (Below w.heap.size w z10) := HB.out.trans (hb.mono HB.out.size)
      replace P1 : Hid (Pr z10 w.heap.size x1.heap.size x1.heap.size a1 p1 n1 cap1 c1 l1 u1 L1) := P1.out.later hb
      replace I6 : Hid (IntsAt true z10 w.heap.size x1.heap.size (.slice p6 n6 cap6) R) := I6.out.later hb
      replace I7 : Hid (IntsAt true z10 w.heap.size x1.heap.size (.slice p7 n7 cap7) C) := I7.out.later hb
      clear hb
      obtain ⟨_, P1_0, P1_1, P1_2, P1_3, P1_4, _⟩ := P1.out.box
      go_wp2_with fail
      go_ret
      exact ⟨rfl, HB.out⟩
    · skip
      have HA : Hid (stOk a1 L1 (c1, l1, u1) = true) := hoa
      clear hoa
      obtain ⟨_, P1_0, P1_1, P1_2, P1_3, P1_4, _⟩ := P1.out.box
      go_wp2_with fail
      refine (stOk_spec _ true _ _ _ _ L1 _ _ _ P1.out.row).mono ?_
      rintro e z11 ⟨rfl, hb⟩
      clear P1_0 P1_1 P1_2 P1_3 P1_4
      rw [HA.out]
      replace HB : Hid (Below w.heap.size w z11) := HB.out.trans (hb.mono HB.out.size)
      replace P1 : Hid (Pr z11 w.heap.size x1.heap.size x1.heap.size a1 p1 n1 cap1 c1 l1 u1 L1) := P1.out.later hb
      replace I6 : Hid (IntsAt true z11 w.heap.size x1.heap.size (.slice p6 n6 cap6) R) := I6.out.later hb
      replace I7 : Hid (IntsAt true z11 w.heap.size x1.heap.size (.slice p7 n7 cap7) C) := I7.out.later hb
      clear hb
      cases a1
      · skip
        obtain ⟨_, P1_0, P1_1, P1_2, P1_3, P1_4, _⟩ := P1.out.box
        go_wp2_with fail
        refine (stHas_spec _ true true true _ _ _ _ _ _ _ _ _ _ L1 _ _ _ R C P1.out.row I6.out I7.out).mono ?_
        rintro e z12 ⟨rfl, hb⟩
        clear P1_0 P1_1 P1_2 P1_3 P1_4
        rw [HH.out]
        replace HB : Hid (Below w.heap.size w z12) := HB.out.trans (hb.mono HB.out.size)
        replace P1 : Hid (Pr z12 w.heap.size x1.heap.size x1.heap.size false p1 n1 cap1 c1 l1 u1 L1) := P1.out.later hb
        replace I6 : Hid (IntsAt true z12 w.heap.size x1.heap.size (.slice p6 n6 cap6) R) := I6.out.later hb
        replace I7 : Hid (IntsAt true z12 w.heap.size x1.heap.size (.slice p7 n7 cap7) C) := I7.out.later hb
        clear hb
        obtain ⟨_, P1_0, P1_1, P1_2, P1_3, P1_4, _⟩ := P1.out.box
        go_wp2_with fail
        go_ret
        exact ⟨rfl, HB.out⟩
      · skip
        by_cases h6n : n6 = 3
        · skip
          subst h6n
          by_cases h7n : n7 = 3
          · skip
            subst h7n
            have hR3 : R.length = 3 := HQ1.out.1.2
            have hC3 : C.length = 3 := HQ1.out.2
            have hall := has_main (R := R) (C := C) HA.out hR3 hC3
            rw [HH.out] at hall
            have HALL : Hid (true = (((List.range 3).all fun j => hasS (L1.getD j noSp) (R.getD j 0)) && (List.range 3).all fun j => hasS (c1, l1, u1) (C.getD j 0))) := hall
            clear hall
            have hf : ∃ s0 s1 s2, L1 = [s0, s1, s2] ∧ someF s0 = true ∧ someF s1 = true ∧ someF s2 = true ∧ someF (c1, l1, u1) = true := by
              rcases ok_form HA.out with ⟨h0, _⟩ | ⟨_, s0, s1, s2, e, h0, h1, h2, h3⟩
              · cases h0
              · exact ⟨s0, s1, s2, e, h0, h1, h2, h3⟩
            have HF : Hid (∃ s0 s1 s2, L1 = [s0, s1, s2] ∧ someF s0 = true ∧ someF s1 = true ∧ someF s2 = true ∧ someF (c1, l1, u1) = true) := hf
            clear hf
            have hn1 : n1 = 3 := HQ1.out.1.1.symm.trans (stOk_len' HA.out)
            subst hn1
            obtain ⟨gg, oo, hp1, hgx, hgs⟩ := P1.out.row.three HQ1.out.1.1
            subst hp1
            obtain ⟨g6, o6, hp6, i6⟩ : ∃ g6 o6, p6 = some ⟨g6, o6, none⟩ ∧ ∀ j, j < 3 → z11.cell? ⟨g6, o6 + j, none⟩ = some (.int .i64 (R.getD j 0)) := by
              obtain ⟨pp, cc, hv, _, hq⟩ := I6.out
              injection hv with e1
              rcases hq with h0 | ⟨g6, o6, hp, _, _, _, _, hj⟩
              · omega
              · exact ⟨g6, o6, e1.trans hp, fun j hj3 => hj j (by omega)⟩
            obtain ⟨g7, o7, hp7, i7⟩ : ∃ g7 o7, p7 = some ⟨g7, o7, none⟩ ∧ ∀ j, j < 3 → z11.cell? ⟨g7, o7 + j, none⟩ = some (.int .i64 (C.getD j 0)) := by
              obtain ⟨pp, cc, hv, _, hq⟩ := I7.out
              injection hv with e1
              rcases hq with h0 | ⟨g6, o6, hp, _, _, _, _, hj⟩
              · omega
              · exact ⟨g6, o6, e1.trans hp, fun j hj3 => hj j (by omega)⟩
            subst hp6 hp7
            have HX : Hid ((∀ j, j < 3 → Spn z11 gg (oo + j * 3) (L1.getD j noSp)) ∧ (∀ j, j < 3 → z11.cell? ⟨g6, o6 + j, none⟩ = some (.int .i64 (R.getD j 0))) ∧ (∀ j, j < 3 → z11.cell? ⟨g7, o7 + j, none⟩ = some (.int .i64 (C.getD j 0)))) := ⟨hgs, i6, i7⟩
            clear hgs i6 i7
            obtain ⟨_, P1_0, P1_1, P1_2, P1_3, P1_4, _⟩ := P1.out.box
            go_wp2_with fail
            clear P1_0 P1_1 P1_2 P1_3 P1_4
            go_loopw [7, 8] (fun s t y => ∃ (k : Nat) (b1 : Bool), k ≤ 3 ∧ t = .int .i64 k ∧ s = .bool b1 ∧ Hid (b1 = (List.range k).all fun j => hasS (L1.getD j noSp) (R.getD j 0)) ∧ ∃ q, y = z11.drewN q) (fun _ t _ => 3 - (intOf t).toNat)
            case atStart => exact ⟨0, true, by omega, rfl, rfl, rfl, 0, rfl⟩
            case round =>
              obtain ⟨k, b1, hk, rfl, rfl, hb1, q, rfl⟩ := hrel
              by_cases hlt : k < 3
              · have hki : (k : Int) < 3 := by omega
                have hk9 : someF (L1.getD k noSp) = true := by
                  obtain ⟨s0, s1, s2, rfl, h0, h1, h2, _⟩ := HF.out
                  match k, hlt with
                  | 0, _ => exact h0
                  | 1, _ => exact h1
                  | 2, _ => exact h2
                  | k + 3, hh => omega
                obtain ⟨lo, hi, hsp, hbd⟩ := some_form hk9
                obtain ⟨q0, q1, q2⟩ := HX.out.1 k hlt
                rw [hsp] at q0 q1 q2
                simp only at q0 q1 q2
                have i0 := HX.out.2.1 k hlt
                generalize hnn : R.getD k 0 = nn at i0
                have HS : Hid (hasS (L1.getD k noSp) (R.getD k 0) = decide (lo ≤ nn ∧ nn ≤ hi)) := hid_of (by rw [hsp, hnn]; exact hasS_of hbd)
                have x1_ := P1.out.box.c1
                clear hk9 hsp hnn
                cases b1
                · skip
                  go_wp2_with fail
                  go_quiet (fail)
                  go_wp2_with fail
                  go_roundw
                  case rel => exact ⟨k + 1, false, by omega, by go_num, rfl, (all_next hb1.out), _, rfl⟩
                  case measure => simp [intOf]; omega
                · by_cases h1 : lo ≤ nn
                  · by_cases h2 : nn ≤ hi
                    · skip
                      go_wp2_with fail
                      go_quiet (fail)
                      go_wp2_with fail
                      go_roundw
                      case rel => exact ⟨k + 1, true, by omega, by go_num, rfl, ((show (true && hasS (L1.getD k noSp) (R.getD k 0)) = true by rw [HS.out]; exact decide_eq_true (by omega)).symm.trans (all_next hb1.out)), _, rfl⟩
                      case measure => simp [intOf]; omega
                    · have d2 : decide (nn ≤ hi) = false := decide_eq_false h2
                      go_wp2_with fail
                      go_quiet (fail)
                      go_wp2_with fail
                      go_roundw
                      case rel => exact ⟨k + 1, false, by omega, by go_num, rfl, ((show (true && hasS (L1.getD k noSp) (R.getD k 0)) = false by rw [HS.out]; exact decide_eq_false (by omega)).symm.trans (all_next hb1.out)), _, rfl⟩
                      case measure => simp [intOf]; omega
                  · have d1 : decide (lo ≤ nn) = false := decide_eq_false h1
                    go_wp2_with fail
                    go_quiet (fail)
                    go_wp2_with fail
                    go_roundw
                    case rel => exact ⟨k + 1, false, by omega, by go_num, rfl, ((show (true && hasS (L1.getD k noSp) (R.getD k 0)) = false by rw [HS.out]; exact decide_eq_false (by omega)).symm.trans (all_next hb1.out)), _, rfl⟩
                    case measure => simp [intOf]; omega
              · have hk3 : k = 3 := by omega
                have hki : ¬ (k : Int) < 3 := by omega
                have HB1 : Hid (b1 = (List.range 3).all fun j => hasS (L1.getD j noSp) (R.getD j 0)) := (by have h9 := hb1.out; rw [hk3] at h9; exact h9)
                clear hb1
                go_wp2_with fail
                go_loopw [7, 9] (fun s t y => ∃ (k : Nat) (b2 : Bool), k ≤ 3 ∧ t = .int .i64 k ∧ s = .bool b2 ∧ Hid (b2 = (b1 && (List.range k).all fun j => hasS (c1, l1, u1) (C.getD j 0))) ∧ ∃ q, y = z11.drewN q) (fun _ t _ => 3 - (intOf t).toNat)
                case atStart => exact ⟨0, b1, by omega, rfl, rfl, hid_of (by simp), q, rfl⟩
                case round =>
                  obtain ⟨k, b2, hk, rfl, rfl, hb2, q2, rfl⟩ := hrel
                  by_cases hlt : k < 3
                  · have hki : (k : Int) < 3 := by omega
                    have hk9 : someF (c1, l1, u1) = true := by obtain ⟨_, _, _, _, _, _, _, h3⟩ := HF.out; exact h3
                    obtain ⟨lo, hi, hsp, hbd⟩ := some_form hk9
                    simp only [Prod.mk.injEq] at hsp
                    have i0 := HX.out.2.2 k hlt
                    generalize hnn : C.getD k 0 = nn at i0
                    have HS : Hid (hasS (c1, l1, u1) (C.getD k 0) = decide (lo ≤ nn ∧ nn ≤ hi)) := hid_of (by rw [hsp.1, hsp.2.1, hsp.2.2, hnn]; exact hasS_of hbd)
                    have x3_ := P1.out.box.c3
                    have x4_ := P1.out.box.c4
                    rw [hsp.2.1] at x3_
                    rw [hsp.2.2] at x4_
                    clear hk9 hnn hsp
                    cases b2
                    · skip
                      go_wp2_with fail
                      go_quiet (fail)
                      go_wp2_with fail
                      go_roundw
                      case rel => exact ⟨k + 1, false, by omega, by go_num, rfl, (all_next2 hb2.out), _, rfl⟩
                      case measure => simp [intOf]; omega
                    · by_cases h1 : lo ≤ nn
                      · by_cases h2 : nn ≤ hi
                        · skip
                          go_wp2_with fail
                          go_quiet (fail)
                          go_wp2_with fail
                          go_roundw
                          case rel => exact ⟨k + 1, true, by omega, by go_num, rfl, ((show (true && hasS (c1, l1, u1) (C.getD k 0)) = true by rw [HS.out]; exact decide_eq_true (by omega)).symm.trans (all_next2 hb2.out)), _, rfl⟩
                          case measure => simp [intOf]; omega
                        · have d2 : decide (nn ≤ hi) = false := decide_eq_false h2
                          go_wp2_with fail
                          go_quiet (fail)
                          go_wp2_with fail
                          go_roundw
                          case rel => exact ⟨k + 1, false, by omega, by go_num, rfl, ((show (true && hasS (c1, l1, u1) (C.getD k 0)) = false by rw [HS.out]; exact decide_eq_false (by omega)).symm.trans (all_next2 hb2.out)), _, rfl⟩
                          case measure => simp [intOf]; omega
                      · have d1 : decide (lo ≤ nn) = false := decide_eq_false h1
                        go_wp2_with fail
                        go_quiet (fail)
                        go_wp2_with fail
                        go_roundw
                        case rel => exact ⟨k + 1, false, by omega, by go_num, rfl, ((show (true && hasS (c1, l1, u1) (C.getD k 0)) = false by rw [HS.out]; exact decide_eq_false (by omega)).symm.trans (all_next2 hb2.out)), _, rfl⟩
                        case measure => simp [intOf]; omega
                  · have hk3 : k = 3 := by omega
                    have hki : ¬ (k : Int) < 3 := by omega
                    have h9 := hb2.out
                    rw [hk3, HB1.out] at h9
                    have hz : b2 = true := h9.trans HALL.out.symm
                    clear h9
                    subst hz
                    go_wp2_with fail
                    go_ret
                    exact ⟨rfl, HB.out.trans ((belowN z11 q2).mono HB.out.size)⟩
          · skip
            have h7i : ¬ (n7 : Int) = 3 := by omega
            obtain ⟨_, P1_0, P1_1, P1_2, P1_3, P1_4, _⟩ := P1.out.box
            go_wp2_with fail
            refine (stHas_spec _ true true true _ _ _ _ _ _ _ _ _ _ L1 _ _ _ R C P1.out.row I6.out I7.out).mono ?_
            rintro e z13 ⟨rfl, hb⟩
            clear P1_0 P1_1 P1_2 P1_3 P1_4
            rw [HH.out]
            replace HB : Hid (Below w.heap.size w z13) := HB.out.trans (hb.mono HB.out.size)
            replace P1 : Hid (Pr z13 w.heap.size x1.heap.size x1.heap.size true p1 n1 cap1 c1 l1 u1 L1) := P1.out.later hb
            replace I6 : Hid (IntsAt true z13 w.heap.size x1.heap.size (.slice p6 3 cap6) R) := I6.out.later hb
            replace I7 : Hid (IntsAt true z13 w.heap.size x1.heap.size (.slice p7 n7 cap7) C) := I7.out.later hb
            clear hb
            obtain ⟨_, P1_0, P1_1, P1_2, P1_3, P1_4, _⟩ := P1.out.box
            go_wp2_with fail
            go_ret
            exact ⟨rfl, HB.out⟩
        · skip
          have h6i : ¬ (n6 : Int) = 3 := by omega
          obtain ⟨_, P1_0, P1_1, P1_2, P1_3, P1_4, _⟩ := P1.out.box
          go_wp2_with fail
          refine (stHas_spec _ true true true _ _ _ _ _ _ _ _ _ _ L1 _ _ _ R C P1.out.row I6.out I7.out).mono ?_
          rintro e z14 ⟨rfl, hb⟩
          clear P1_0 P1_1 P1_2 P1_3 P1_4
          rw [HH.out]
          replace HB : Hid (Below w.heap.size w z14) := HB.out.trans (hb.mono HB.out.size)
          replace P1 : Hid (Pr z14 w.heap.size x1.heap.size x1.heap.size true p1 n1 cap1 c1 l1 u1 L1) := P1.out.later hb
          replace I6 : Hid (IntsAt true z14 w.heap.size x1.heap.size (.slice p6 n6 cap6) R) := I6.out.later hb
          replace I7 : Hid (IntsAt true z14 w.heap.size x1.heap.size (.slice p7 n7 cap7) C) := I7.out.later hb
          clear hb
          obtain ⟨_, P1_0, P1_1, P1_2, P1_3, P1_4, _⟩ := P1.out.box
          go_wp2_with fail
          go_ret
          exact ⟨rfl, HB.out⟩
end Go.Proofs.Ytdomalclpjijaaa
