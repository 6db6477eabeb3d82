import Derived.Test.YtdomalclpjijaaaB3
import Derived.Test.YtdomalclpjijaaaB26
import Derived.Test.YtdomalclpjijaaaB20
import Derived.Test.YtdomalclpjijaaaB25
import Derived.Test.YtdomalclpjijaaaB23
/-
  A box of five cells that is read.
-/
namespace Go.Proofs.Ytdomalclpjijaaa
open Go.RowKit
set_option linter.unusedVariables false

structure Rd5 (x : World) (m : Nat) (v0 v1 v2 v3 v4 : Value) : Prop where
  lt : m < x.heap.size
  c0 : x.cell? ⟨m, 0, none⟩ = some v0
  c1 : x.cell? ⟨m, 1, none⟩ = some v1
  c2 : x.cell? ⟨m, 2, none⟩ = some v2
  c3 : x.cell? ⟨m, 3, none⟩ = some v3
  c4 : x.cell? ⟨m, 4, none⟩ = some v4
theorem Rd5.later {x y : World} {m : Nat} {v0 v1 v2 v3 v4 : Value} (h : Rd5 x m v0 v1 v2 v3 v4) (hb : Below x.heap.size x y) : Rd5 y m v0 v1 v2 v3 v4 :=
  ⟨Nat.lt_of_lt_of_le h.lt hb.size, (hb.cell (p := ⟨m, 0, none⟩) h.lt).trans h.c0, (hb.cell (p := ⟨m, 1, none⟩) h.lt).trans h.c1, (hb.cell (p := ⟨m, 2, none⟩) h.lt).trans h.c2, (hb.cell (p := ⟨m, 3, none⟩) h.lt).trans h.c3, (hb.cell (p := ⟨m, 4, none⟩) h.lt).trans h.c4⟩
theorem Rd5.stay {x y : World} {m : Nat} {v0 v1 v2 v3 v4 : Value} (h : Rd5 x m v0 v1 v2 v3 v4) (hs : x.heap.size ≤ y.heap.size) (hc : ∀ k, y.cell? ⟨m, k, none⟩ = x.cell? ⟨m, k, none⟩) : Rd5 y m v0 v1 v2 v3 v4 :=
  ⟨Nat.lt_of_lt_of_le h.lt hs, (hc _).trans h.c0, (hc _).trans h.c1, (hc _).trans h.c2, (hc _).trans h.c3, (hc _).trans h.c4⟩
theorem Bx5.rd {x : World} {m : Nat} {v0 v1 v2 v3 v4 : Value} (h : Bx5 x m v0 v1 v2 v3 v4) : Rd5 x m v0 v1 v2 v3 v4 := ⟨h.lt, h.c0, h.c1, h.c2, h.c3, h.c4⟩
end Go.Proofs.Ytdomalclpjijaaa

/-
  What a law on two states and their join keeps: the arguments, and states in boxes with their rows.
-/
namespace Go.Proofs.Ytdomalclpjijaaa
open Go.RowKit
set_option linter.unusedVariables false
set_option linter.unusedSimpArgs false

theorem stB_len (wd a : Bool) (L : List Sp) (c : Sp) (b : Bool) (M : List Sp) (d : Sp) : (stBoth wd a L c b M d).2.1.length ≤ 3 := by
  unfold stBoth
  split
  · rename_i h
    simp only [Bool.and_eq_true] at h
    have h1 := stOk_len0 h.1
    have h2 := stOk_len0 h.2
    split
    · split
      · simp [row3]
      · simp only; omega
    · simp only; omega
  · simp [noSt]
/-- the arguments of a law on two states, as they lie -/
structure Ag (w y : World) (va vb : Value) (a c : Bool) (l u : Int) (b d : Bool) (l' u' : Int) (L M : List Sp) : Prop where
  below : Below w.heap.size w y
  ba : Bx5 y w.heap.size (.bool a) va (.bool c) (.int .i64 l) (.int .i64 u)
  bb : Bx5 y (w.heap.size + 1) (.bool b) vb (.bool d) (.int .i64 l') (.int .i64 u')
  ra : SpsAt false y 0 w.heap.size va L
  rb : SpsAt false y 0 w.heap.size vb M
theorem Ag.later {w y z : World} {va vb : Value} {a c : Bool} {l u : Int} {b d : Bool} {l' u' : Int} {L M : List Sp} (h : Ag w y va vb a c l u b d l' u' L M) (hb : Below y.heap.size y z) : Ag w z va vb a c l u b d l' u' L M :=
  ⟨h.below.trans (hb.mono h.below.size), h.ba.later hb, h.bb.later hb, h.ra.later hb, h.rb.later hb⟩
theorem Ag.within {w y z : World} {va vb : Value} {a c : Bool} {l u : Int} {b d : Bool} {l' u' : Int} {L M : List Sp} {B E : Nat} (h : Ag w y va vb a c l u b d l' u' L M) (hw : Within B E y z) (hB : w.heap.size + 2 ≤ B) : Ag w z va vb a c l u b d l' u' L M :=
  ⟨h.below.trans (hw.below.mono (by omega)), h.ba.within hw (.inl (by omega)), h.bb.within hw (.inl (by omega)), h.ra.within hw (.inl (by omega)), h.rb.within hw (.inl (by omega))⟩
/-- a state in a box, its row -/
structure Pr (y : World) (B N m : Nat) (a : Bool) (p : Option Addr) (n cap : Nat) (c : Bool) (l u : Int) (L : List Sp) : Prop where
  box : Bx5 y m (.bool a) (.slice p n cap) (.bool c) (.int .i64 l) (.int .i64 u)
  row : SpsAt true y B N (.slice p n cap) L
theorem Pr.later {y z : World} {B N m : Nat} {a : Bool} {p : Option Addr} {n cap : Nat} {c : Bool} {l u : Int} {L : List Sp} (h : Pr y B N m a p n cap c l u L) (hb : Below y.heap.size y z) : Pr z B N m a p n cap c l u L := ⟨h.box.later hb, h.row.later hb⟩
theorem Pr.within {y z : World} {B N m : Nat} {a : Bool} {p : Option Addr} {n cap : Nat} {c : Bool} {l u : Int} {L : List Sp} {B' E' : Nat} (h : Pr y B N m a p n cap c l u L) (hw : Within B' E' y z) (h1 : m < B' ∨ E' ≤ m) (h2 : N ≤ B' ∨ E' ≤ B) : Pr z B N m a p n cap c l u L := ⟨h.box.within hw h1, h.row.within hw h2⟩
theorem Pr.mark {y z : World} {B N m : Nat} {a : Bool} {p : Option Addr} {n cap : Nat} {c : Bool} {l u : Int} {L M : List Sp} {B' E' : Nat} (h : Pr y B N m a p n cap c l u L) (hw : Within B' E' y z) (h1 : m < B' ∨ E' ≤ m) (h2 : SpsAt true z B N (.slice p n cap) M) : Pr z B N m a p n cap c l u M := ⟨h.box.within hw h1, h2⟩
/-- a new box for a state whose row is new -/
theorem Pr.made {y : World} {B : Nat} {a : Bool} {p : Option Addr} {n cap : Nat} {c : Bool} {l u : Int} {L : List Sp} (t : TypeId) (h : SpsAt true y B y.heap.size (.slice p n cap) L) : Pr (y.alloc (.cells #[.bool a, .slice p n cap, .bool c, .int .i64 l, .int .i64 u] t)) B y.heap.size y.heap.size a p n cap c l u L :=
  ⟨Bx5.new _ _ _ _ _ _ _, h.later ((Below.refl _ _).alloc (Nat.le_refl _) _)⟩

end Go.Proofs.Ytdomalclpjijaaa

/-
  The walk of the law FnStateIn.
-/
namespace Go.Proofs.Ytdomalclpjijaaa
open Go.RowKit
set_option linter.unusedVariables false
set_option linter.unusedSimpArgs false

set_option maxRecDepth 100000 in
set_option maxHeartbeats 8000000 in
theorem stateIn_walk (a : Option Addr) (len cap : Nat) (zs : List Int) (b : Option Addr) (lenb capb : Nat) (zb : List Int) (w : World) (h : IsRow w a len cap zs) (h' : IsRow w b lenb capb zb) :
    Calls Try.prog 6 #[.slice a len cap, .slice b lenb capb] w fun e w' => e = .returned (.bool true) ∧ Below w.heap.size w w' := by
  have hm : len ≤ maxLen := by
    rcases h with ⟨rfl, rfl, rfl, rfl⟩ | ⟨x, rfl, hl, hm, hz, hcell, hwz⟩
    · unfold maxLen; omega
    · omega
  unfold maxLen at hm
  have hm' : lenb ≤ maxLen := by
    rcases h' with ⟨rfl, rfl, rfl, rfl⟩ | ⟨x, rfl, hl, hm, hz, hcell, hwz⟩
    · unfold maxLen; omega
    · omega
  unfold maxLen at hm'
  by_cases hl : (1048576 : Int) < (len : Int)
  · clear h h'
    go_enter Try.func6, Try.ntmps6
    go_wp2
    go_ret
    exact ⟨rfl, by go_grown⟩
  by_cases hl2 : (1048576 : Int) < (lenb : Int)
  · clear h h'
    go_enter Try.func6, Try.ntmps6
    go_wp2
    go_ret
    exact ⟨rfl, by go_grown⟩
  go_enter Try.func6, Try.ntmps6
  go_wp2_with fail
  refine (drawStateHas_any a len cap zs _ h).mono ?_
  rintro e x1 hg
  obtain ⟨a1, L1, c1, l1, u1, p1, cap1, p6, cap6, R, p7, cap7, C, rfl, hn1, hnR, hnC, hs1, h6, h7, hb⟩ := hg.it
  clear hg
  generalize hq1 : L1.length = n1 at hn1 hs1 ⊢
  generalize hqR : R.length = n6 at hnR h6 ⊢
  generalize hqC : C.length = n7 at hnC h7 ⊢
  have HQ1 : Hid ((L1.length = n1 ∧ R.length = n6) ∧ C.length = n7) := ⟨⟨hq1, hqR⟩, hqC⟩
  clear hq1 hqR hqC hn1
  have hA : Below x1.heap.size x1 (x1.alloc (.cells #[.bool a1, .slice p1 n1 cap1, .bool c1, .int .i64 l1, .int .i64 u1] 31)) := (Below.refl _ _).alloc (Nat.le_refl _) _
  have P1 : Hid (Pr (x1.alloc (.cells #[.bool a1, .slice p1 n1 cap1, .bool c1, .int .i64 l1, .int .i64 u1] 31)) w.heap.size x1.heap.size x1.heap.size a1 p1 n1 cap1 c1 l1 u1 L1) := ⟨Bx5.new _ _ _ _ _ _ _, hs1.later hA⟩
  have I6 : Hid (IntsAt true (x1.alloc (.cells #[.bool a1, .slice p1 n1 cap1, .bool c1, .int .i64 l1, .int .i64 u1] 31)) w.heap.size x1.heap.size (.slice p6 n6 cap6) R) := h6.later hA
  have I7 : Hid (IntsAt true (x1.alloc (.cells #[.bool a1, .slice p1 n1 cap1, .bool c1, .int .i64 l1, .int .i64 u1] 31)) w.heap.size x1.heap.size (.slice p7 n7 cap7) C) := h7.later hA
  have HB : Hid (Below w.heap.size w (x1.alloc (.cells #[.bool a1, .slice p1 n1 cap1, .bool c1, .int .i64 l1, .int .i64 u1] 31))) := hb.trans (hA.mono hb.size)
  have HW : Hid (IsRow (x1.alloc (.cells #[.bool a1, .slice p1 n1 cap1, .bool c1, .int .i64 l1, .int .i64 u1] 31)) b lenb capb zb) := IsRow.later (IsRow.later h' hb) (hA : Below x1.heap.size x1 (x1.alloc (.cells #[.bool a1, .slice p1 n1 cap1, .bool c1, .int .i64 l1, .int .i64 u1] 31)))
  clear hA hs1 h6 h7 hb h h'
  go_wp2_with fail
  generalize (x1.alloc (.cells #[.bool a1, .slice p1 n1 cap1, .bool c1, .int .i64 l1, .int .i64 u1] 31)) = y1 at P1 I6 I7 HB HW ⊢
  refine (drawStateIn_any b lenb capb zb _ HW.out).mono ?_
  rintro e x3 hg
  obtain ⟨a3, L3, c3, l3, u3, p3, cap3, a4, L4, c4, l4, u4, p4, cap4, rfl, hn3, hn4, hs3, hs4, hb⟩ := hg.it
  clear hg
  replace HB : Hid (Below w.heap.size w x3) := HB.out.trans (hb.mono HB.out.size)
  replace P1 : Hid (Pr x3 w.heap.size x1.heap.size x1.heap.size a1 p1 n1 cap1 c1 l1 u1 L1) := P1.out.later hb
  replace I6 : Hid (IntsAt true x3 w.heap.size x1.heap.size (.slice p6 n6 cap6) R) := I6.out.later hb
  replace I7 : Hid (IntsAt true x3 w.heap.size x1.heap.size (.slice p7 n7 cap7) C) := I7.out.later hb
  generalize hq3 : L3.length = n3 at hn3 hs3 ⊢
  generalize hq4 : L4.length = n4 at hn4 hs4 ⊢
  have HQ3 : Hid ((L3.length = n3 ∧ L3.length ≤ 1000) ∧ (L4.length = n4 ∧ L4.length ≤ 1000)) := ⟨⟨hq3, by omega⟩, ⟨hq4, by omega⟩⟩
  clear hq3 hq4 hn3 hn4
  have hA : Below x3.heap.size x3 ((x3.alloc (.cells #[.bool a3, .slice p3 n3 cap3, .bool c3, .int .i64 l3, .int .i64 u3] 31)).alloc (.cells #[.bool a4, .slice p4 n4 cap4, .bool c4, .int .i64 l4, .int .i64 u4] 31)) := ((Below.refl _ _).alloc (Nat.le_refl _) _).alloc (by simp) _
  have P3 : Hid (Pr ((x3.alloc (.cells #[.bool a3, .slice p3 n3 cap3, .bool c3, .int .i64 l3, .int .i64 u3] 31)).alloc (.cells #[.bool a4, .slice p4 n4 cap4, .bool c4, .int .i64 l4, .int .i64 u4] 31)) y1.heap.size x3.heap.size x3.heap.size a3 p3 n3 cap3 c3 l3 u3 L3) := ⟨(Bx5.new _ _ _ _ _ _ _).alloc _, hs3.later hA⟩
  have P4 : Hid (Pr ((x3.alloc (.cells #[.bool a3, .slice p3 n3 cap3, .bool c3, .int .i64 l3, .int .i64 u3] 31)).alloc (.cells #[.bool a4, .slice p4 n4 cap4, .bool c4, .int .i64 l4, .int .i64 u4] 31)) y1.heap.size x3.heap.size (x3.heap.size + 1) a4 p4 n4 cap4 c4 l4 u4 L4) := ⟨by have h9 := Bx5.new (x3.alloc (.cells #[.bool a3, .slice p3 n3 cap3, .bool c3, .int .i64 l3, .int .i64 u3] 31)) (.bool a4) (.slice p4 n4 cap4) (.bool c4) (.int .i64 l4) (.int .i64 u4) 31; rw [World.size_alloc] at h9; exact h9, hs4.later hA⟩
  replace HB : Hid (Below w.heap.size w ((x3.alloc (.cells #[.bool a3, .slice p3 n3 cap3, .bool c3, .int .i64 l3, .int .i64 u3] 31)).alloc (.cells #[.bool a4, .slice p4 n4 cap4, .bool c4, .int .i64 l4, .int .i64 u4] 31))) := HB.out.trans (hA.mono HB.out.size)
  replace P1 : Hid (Pr ((x3.alloc (.cells #[.bool a3, .slice p3 n3 cap3, .bool c3, .int .i64 l3, .int .i64 u3] 31)).alloc (.cells #[.bool a4, .slice p4 n4 cap4, .bool c4, .int .i64 l4, .int .i64 u4] 31)) w.heap.size x1.heap.size x1.heap.size a1 p1 n1 cap1 c1 l1 u1 L1) := P1.out.later hA
  replace I6 : Hid (IntsAt true ((x3.alloc (.cells #[.bool a3, .slice p3 n3 cap3, .bool c3, .int .i64 l3, .int .i64 u3] 31)).alloc (.cells #[.bool a4, .slice p4 n4 cap4, .bool c4, .int .i64 l4, .int .i64 u4] 31)) w.heap.size x1.heap.size (.slice p6 n6 cap6) R) := I6.out.later hA
  replace I7 : Hid (IntsAt true ((x3.alloc (.cells #[.bool a3, .slice p3 n3 cap3, .bool c3, .int .i64 l3, .int .i64 u3] 31)).alloc (.cells #[.bool a4, .slice p4 n4 cap4, .bool c4, .int .i64 l4, .int .i64 u4] 31)) w.heap.size x1.heap.size (.slice p7 n7 cap7) C) := I7.out.later hA
  clear hA hs3 hs4 hb HW
  obtain ⟨_, P1_0, P1_1, P1_2, P1_3, P1_4, _⟩ := P1.out.box
  go_wp2_with fail
  clear P1_0 P1_1 P1_2 P1_3 P1_4
  generalize ((x3.alloc (.cells #[.bool a3, .slice p3 n3 cap3, .bool c3, .int .i64 l3, .int .i64 u3] 31)).alloc (.cells #[.bool a4, .slice p4 n4 cap4, .bool c4, .int .i64 l4, .int .i64 u4] 31)) = y3 at P1 P3 P4 I6 I7 HB ⊢
  obtain ⟨hh, hhe⟩ : ∃ z, stHas a1 L1 (c1, l1, u1) R C = z := ⟨_, rfl⟩
  refine (stHas_impl _ true true true _ _ _ _ _ _ _ _ _ _ L1 _ _ _ R C P1.out.row I6.out I7.out).mono ?_
  rintro e z0 ⟨rfl, hb⟩
  rw [hhe]
  replace HB : Hid (Below w.heap.size w z0) := HB.out.trans (hb.mono HB.out.size)
  replace P1 : Hid (Pr z0 w.heap.size x1.heap.size x1.heap.size a1 p1 n1 cap1 c1 l1 u1 L1) := P1.out.later hb
  replace I6 : Hid (IntsAt true z0 w.heap.size x1.heap.size (.slice p6 n6 cap6) R) := I6.out.later hb
  replace I7 : Hid (IntsAt true z0 w.heap.size x1.heap.size (.slice p7 n7 cap7) C) := I7.out.later hb
  replace P3 : Hid (Pr z0 y1.heap.size x3.heap.size x3.heap.size a3 p3 n3 cap3 c3 l3 u3 L3) := P3.out.later hb
  replace P4 : Hid (Pr z0 y1.heap.size x3.heap.size (x3.heap.size + 1) a4 p4 n4 cap4 c4 l4 u4 L4) := P4.out.later hb
  clear hb
  have HH : Hid (stHas a1 L1 (c1, l1, u1) R C = hh) := hhe
  clear hhe
  cases hh
  · skip
    obtain ⟨_, P1_0, P1_1, P1_2, P1_3, P1_4, _⟩ := P1.out.box
    obtain ⟨_, P3_0, P3_1, P3_2, P3_3, P3_4, _⟩ := P3.out.box
    obtain ⟨_, P4_0, P4_1, P4_2, P4_3, P4_4, _⟩ := P4.out.box
    go_wp2_with fail
    refine (stHas_spec _ true true true _ _ _ _ _ _ _ _ _ _ L1 _ _ _ R C P1.out.row I6.out I7.out).mono ?_
    rintro e z1 ⟨rfl, hb⟩
    clear P1_0 P1_1 P1_2 P1_3 P1_4 P3_0 P3_1 P3_2 P3_3 P3_4 P4_0 P4_1 P4_2 P4_3 P4_4
    rw [HH.out]
    replace HB : Hid (Below w.heap.size w z1) := HB.out.trans (hb.mono HB.out.size)
    replace P1 : Hid (Pr z1 w.heap.size x1.heap.size x1.heap.size a1 p1 n1 cap1 c1 l1 u1 L1) := P1.out.later hb
    replace I6 : Hid (IntsAt true z1 w.heap.size x1.heap.size (.slice p6 n6 cap6) R) := I6.out.later hb
    replace I7 : Hid (IntsAt true z1 w.heap.size x1.heap.size (.slice p7 n7 cap7) C) := I7.out.later hb
    replace P3 : Hid (Pr z1 y1.heap.size x3.heap.size x3.heap.size a3 p3 n3 cap3 c3 l3 u3 L3) := P3.out.later hb
    replace P4 : Hid (Pr z1 y1.heap.size x3.heap.size (x3.heap.size + 1) a4 p4 n4 cap4 c4 l4 u4 L4) := P4.out.later hb
    clear hb
    obtain ⟨_, P1_0, P1_1, P1_2, P1_3, P1_4, _⟩ := P1.out.box
    obtain ⟨_, P3_0, P3_1, P3_2, P3_3, P3_4, _⟩ := P3.out.box
    obtain ⟨_, P4_0, P4_1, P4_2, P4_3, P4_4, _⟩ := P4.out.box
    go_wp2_with fail
    refine (stHas_spec _ true true true _ _ _ _ _ _ _ _ _ _ L1 _ _ _ R C P1.out.row I6.out I7.out).mono ?_
    rintro e z2 ⟨rfl, hb⟩
    clear P1_0 P1_1 P1_2 P1_3 P1_4 P3_0 P3_1 P3_2 P3_3 P3_4 P4_0 P4_1 P4_2 P4_3 P4_4
    rw [HH.out]
    replace HB : Hid (Below w.heap.size w z2) := HB.out.trans (hb.mono HB.out.size)
    replace P1 : Hid (Pr z2 w.heap.size x1.heap.size x1.heap.size a1 p1 n1 cap1 c1 l1 u1 L1) := P1.out.later hb
    replace I6 : Hid (IntsAt true z2 w.heap.size x1.heap.size (.slice p6 n6 cap6) R) := I6.out.later hb
    replace I7 : Hid (IntsAt true z2 w.heap.size x1.heap.size (.slice p7 n7 cap7) C) := I7.out.later hb
    replace P3 : Hid (Pr z2 y1.heap.size x3.heap.size x3.heap.size a3 p3 n3 cap3 c3 l3 u3 L3) := P3.out.later hb
    replace P4 : Hid (Pr z2 y1.heap.size x3.heap.size (x3.heap.size + 1) a4 p4 n4 cap4 c4 l4 u4 L4) := P4.out.later hb
    clear hb
    obtain ⟨_, P1_0, P1_1, P1_2, P1_3, P1_4, _⟩ := P1.out.box
    obtain ⟨_, P3_0, P3_1, P3_2, P3_3, P3_4, _⟩ := P3.out.box
    obtain ⟨_, P4_0, P4_1, P4_2, P4_3, P4_4, _⟩ := P4.out.box
    go_wp2_with fail
    go_ret
    exact ⟨rfl, HB.out⟩
  · skip
    obtain ⟨_, P1_0, P1_1, P1_2, P1_3, P1_4, _⟩ := P1.out.box
    obtain ⟨_, P3_0, P3_1, P3_2, P3_3, P3_4, _⟩ := P3.out.box
    obtain ⟨_, P4_0, P4_1, P4_2, P4_3, P4_4, _⟩ := P4.out.box
    go_wp2_with fail
    refine (stHas_spec _ true true true _ _ _ _ _ _ _ _ _ _ L1 _ _ _ R C P1.out.row I6.out I7.out).mono ?_
    rintro e z3 ⟨rfl, hb⟩
    clear P1_0 P1_1 P1_2 P1_3 P1_4 P3_0 P3_1 P3_2 P3_3 P3_4 P4_0 P4_1 P4_2 P4_3 P4_4
    rw [HH.out]
    replace HB : Hid (Below w.heap.size w z3) := HB.out.trans (hb.mono HB.out.size)
    replace P1 : Hid (Pr z3 w.heap.size x1.heap.size x1.heap.size a1 p1 n1 cap1 c1 l1 u1 L1) := P1.out.later hb
    replace I6 : Hid (IntsAt true z3 w.heap.size x1.heap.size (.slice p6 n6 cap6) R) := I6.out.later hb
    replace I7 : Hid (IntsAt true z3 w.heap.size x1.heap.size (.slice p7 n7 cap7) C) := I7.out.later hb
    replace P3 : Hid (Pr z3 y1.heap.size x3.heap.size x3.heap.size a3 p3 n3 cap3 c3 l3 u3 L3) := P3.out.later hb
    replace P4 : Hid (Pr z3 y1.heap.size x3.heap.size (x3.heap.size + 1) a4 p4 n4 cap4 c4 l4 u4 L4) := P4.out.later hb
    clear hb
    cases hoa : stOk a3 L3 (c3, l3, u3)
    · skip
      have HA : Hid (stOk a3 L3 (c3, l3, u3) = false) := hoa
      clear hoa
      obtain ⟨_, P1_0, P1_1, P1_2, P1_3, P1_4, _⟩ := P1.out.box
      obtain ⟨_, P3_0, P3_1, P3_2, P3_3, P3_4, _⟩ := P3.out.box
      obtain ⟨_, P4_0, P4_1, P4_2, P4_3, P4_4, _⟩ := P4.out.box
      go_wp2_with fail
      refine (stOk_spec _ true _ _ _ _ L3 _ _ _ P3.out.row).mono ?_
      rintro e z4 ⟨rfl, hb⟩
      clear P1_0 P1_1 P1_2 P1_3 P1_4 P3_0 P3_1 P3_2 P3_3 P3_4 P4_0 P4_1 P4_2 P4_3 P4_4
      rw [HA.out]
      replace HB : Hid (Below w.heap.size w z4) := HB.out.trans (hb.mono HB.out.size)
      replace P1 : Hid (Pr z4 w.heap.size x1.heap.size x1.heap.size a1 p1 n1 cap1 c1 l1 u1 L1) := P1.out.later hb
      replace I6 : Hid (IntsAt true z4 w.heap.size x1.heap.size (.slice p6 n6 cap6) R) := I6.out.later hb
      replace I7 : Hid (IntsAt true z4 w.heap.size x1.heap.size (.slice p7 n7 cap7) C) := I7.out.later hb
      replace P3 : Hid (Pr z4 y1.heap.size x3.heap.size x3.heap.size a3 p3 n3 cap3 c3 l3 u3 L3) := P3.out.later hb
      replace P4 : Hid (Pr z4 y1.heap.size x3.heap.size (x3.heap.size + 1) a4 p4 n4 cap4 c4 l4 u4 L4) := P4.out.later hb
      clear hb
      obtain ⟨_, P1_0, P1_1, P1_2, P1_3, P1_4, _⟩ := P1.out.box
      obtain ⟨_, P3_0, P3_1, P3_2, P3_3, P3_4, _⟩ := P3.out.box
      obtain ⟨_, P4_0, P4_1, P4_2, P4_3, P4_4, _⟩ := P4.out.box
      go_wp2_with fail
      refine (stHas_spec _ true true true _ _ _ _ _ _ _ _ _ _ L1 _ _ _ R C P1.out.row I6.out I7.out).mono ?_
      rintro e z5 ⟨rfl, hb⟩
      clear P1_0 P1_1 P1_2 P1_3 P1_4 P3_0 P3_1 P3_2 P3_3 P3_4 P4_0 P4_1 P4_2 P4_3 P4_4
      rw [HH.out]
      replace HB : Hid (Below w.heap.size w z5) := HB.out.trans (hb.mono HB.out.size)
      replace P1 : Hid (Pr z5 w.heap.size x1.heap.size x1.heap.size a1 p1 n1 cap1 c1 l1 u1 L1) := P1.out.later hb
      replace I6 : Hid (IntsAt true z5 w.heap.size x1.heap.size (.slice p6 n6 cap6) R) := I6.out.later hb
      replace I7 : Hid (IntsAt true z5 w.heap.size x1.heap.size (.slice p7 n7 cap7) C) := I7.out.later hb
      replace P3 : Hid (Pr z5 y1.heap.size x3.heap.size x3.heap.size a3 p3 n3 cap3 c3 l3 u3 L3) := P3.out.later hb
      replace P4 : Hid (Pr z5 y1.heap.size x3.heap.size (x3.heap.size + 1) a4 p4 n4 cap4 c4 l4 u4 L4) := P4.out.later hb
      clear hb
      obtain ⟨_, P1_0, P1_1, P1_2, P1_3, P1_4, _⟩ := P1.out.box
      obtain ⟨_, P3_0, P3_1, P3_2, P3_3, P3_4, _⟩ := P3.out.box
      obtain ⟨_, P4_0, P4_1, P4_2, P4_3, P4_4, _⟩ := P4.out.box
      go_wp2_with fail
      go_ret
      exact ⟨rfl, HB.out⟩
    · skip
      have HA : Hid (stOk a3 L3 (c3, l3, u3) = true) := hoa
      clear hoa
      obtain ⟨_, P1_0, P1_1, P1_2, P1_3, P1_4, _⟩ := P1.out.box
      obtain ⟨_, P3_0, P3_1, P3_2, P3_3, P3_4, _⟩ := P3.out.box
      obtain ⟨_, P4_0, P4_1, P4_2, P4_3, P4_4, _⟩ := P4.out.box
      go_wp2_with fail
      refine (stOk_spec _ true _ _ _ _ L3 _ _ _ P3.out.row).mono ?_
      rintro e z6 ⟨rfl, hb⟩
      clear P1_0 P1_1 P1_2 P1_3 P1_4 P3_0 P3_1 P3_2 P3_3 P3_4 P4_0 P4_1 P4_2 P4_3 P4_4
      rw [HA.out]
      replace HB : Hid (Below w.heap.size w z6) := HB.out.trans (hb.mono HB.out.size)
      replace P1 : Hid (Pr z6 w.heap.size x1.heap.size x1.heap.size a1 p1 n1 cap1 c1 l1 u1 L1) := P1.out.later hb
      replace I6 : Hid (IntsAt true z6 w.heap.size x1.heap.size (.slice p6 n6 cap6) R) := I6.out.later hb
      replace I7 : Hid (IntsAt true z6 w.heap.size x1.heap.size (.slice p7 n7 cap7) C) := I7.out.later hb
      replace P3 : Hid (Pr z6 y1.heap.size x3.heap.size x3.heap.size a3 p3 n3 cap3 c3 l3 u3 L3) := P3.out.later hb
      replace P4 : Hid (Pr z6 y1.heap.size x3.heap.size (x3.heap.size + 1) a4 p4 n4 cap4 c4 l4 u4 L4) := P4.out.later hb
      clear hb
      cases hob : stOk a4 L4 (c4, l4, u4)
      · skip
        have HBo : Hid (stOk a4 L4 (c4, l4, u4) = false) := hob
        clear hob
        obtain ⟨_, P1_0, P1_1, P1_2, P1_3, P1_4, _⟩ := P1.out.box
        obtain ⟨_, P3_0, P3_1, P3_2, P3_3, P3_4, _⟩ := P3.out.box
        obtain ⟨_, P4_0, P4_1, P4_2, P4_3, P4_4, _⟩ := P4.out.box
        go_wp2_with fail
        refine (stOk_spec _ true _ _ _ _ L4 _ _ _ P4.out.row).mono ?_
        rintro e z7 ⟨rfl, hb⟩
        clear P1_0 P1_1 P1_2 P1_3 P1_4 P3_0 P3_1 P3_2 P3_3 P3_4 P4_0 P4_1 P4_2 P4_3 P4_4
        rw [HBo.out]
        replace HB : Hid (Below w.heap.size w z7) := HB.out.trans (hb.mono HB.out.size)
        replace P1 : Hid (Pr z7 w.heap.size x1.heap.size x1.heap.size a1 p1 n1 cap1 c1 l1 u1 L1) := P1.out.later hb
        replace I6 : Hid (IntsAt true z7 w.heap.size x1.heap.size (.slice p6 n6 cap6) R) := I6.out.later hb
        replace I7 : Hid (IntsAt true z7 w.heap.size x1.heap.size (.slice p7 n7 cap7) C) := I7.out.later hb
        replace P3 : Hid (Pr z7 y1.heap.size x3.heap.size x3.heap.size a3 p3 n3 cap3 c3 l3 u3 L3) := P3.out.later hb
        replace P4 : Hid (Pr z7 y1.heap.size x3.heap.size (x3.heap.size + 1) a4 p4 n4 cap4 c4 l4 u4 L4) := P4.out.later hb
        clear hb
        obtain ⟨_, P1_0, P1_1, P1_2, P1_3, P1_4, _⟩ := P1.out.box
        obtain ⟨_, P3_0, P3_1, P3_2, P3_3, P3_4, _⟩ := P3.out.box
        obtain ⟨_, P4_0, P4_1, P4_2, P4_3, P4_4, _⟩ := P4.out.box
        go_wp2_with fail
        refine (stHas_spec _ true true true _ _ _ _ _ _ _ _ _ _ L1 _ _ _ R C P1.out.row I6.out I7.out).mono ?_
        rintro e z8 ⟨rfl, hb⟩
        clear P1_0 P1_1 P1_2 P1_3 P1_4 P3_0 P3_1 P3_2 P3_3 P3_4 P4_0 P4_1 P4_2 P4_3 P4_4
        rw [HH.out]
        replace HB : Hid (Below w.heap.size w z8) := HB.out.trans (hb.mono HB.out.size)
        replace P1 : Hid (Pr z8 w.heap.size x1.heap.size x1.heap.size a1 p1 n1 cap1 c1 l1 u1 L1) := P1.out.later hb
        replace I6 : Hid (IntsAt true z8 w.heap.size x1.heap.size (.slice p6 n6 cap6) R) := I6.out.later hb
        replace I7 : Hid (IntsAt true z8 w.heap.size x1.heap.size (.slice p7 n7 cap7) C) := I7.out.later hb
        replace P3 : Hid (Pr z8 y1.heap.size x3.heap.size x3.heap.size a3 p3 n3 cap3 c3 l3 u3 L3) := P3.out.later hb
        replace P4 : Hid (Pr z8 y1.heap.size x3.heap.size (x3.heap.size + 1) a4 p4 n4 cap4 c4 l4 u4 L4) := P4.out.later hb
        clear hb
        obtain ⟨_, P1_0, P1_1, P1_2, P1_3, P1_4, _⟩ := P1.out.box
        obtain ⟨_, P3_0, P3_1, P3_2, P3_3, P3_4, _⟩ := P3.out.box
        obtain ⟨_, P4_0, P4_1, P4_2, P4_3, P4_4, _⟩ := P4.out.box
        go_wp2_with fail
        go_ret
        exact ⟨rfl, HB.out⟩
      · skip
        have HBo : Hid (stOk a4 L4 (c4, l4, u4) = true) := hob
        clear hob
        obtain ⟨_, P1_0, P1_1, P1_2, P1_3, P1_4, _⟩ := P1.out.box
        obtain ⟨_, P3_0, P3_1, P3_2, P3_3, P3_4, _⟩ := P3.out.box
        obtain ⟨_, P4_0, P4_1, P4_2, P4_3, P4_4, _⟩ := P4.out.box
        go_wp2_with fail
        refine (stOk_spec _ true _ _ _ _ L4 _ _ _ P4.out.row).mono ?_
        rintro e z9 ⟨rfl, hb⟩
        clear P1_0 P1_1 P1_2 P1_3 P1_4 P3_0 P3_1 P3_2 P3_3 P3_4 P4_0 P4_1 P4_2 P4_3 P4_4
        rw [HBo.out]
        replace HB : Hid (Below w.heap.size w z9) := HB.out.trans (hb.mono HB.out.size)
        replace P1 : Hid (Pr z9 w.heap.size x1.heap.size x1.heap.size a1 p1 n1 cap1 c1 l1 u1 L1) := P1.out.later hb
        replace I6 : Hid (IntsAt true z9 w.heap.size x1.heap.size (.slice p6 n6 cap6) R) := I6.out.later hb
        replace I7 : Hid (IntsAt true z9 w.heap.size x1.heap.size (.slice p7 n7 cap7) C) := I7.out.later hb
        replace P3 : Hid (Pr z9 y1.heap.size x3.heap.size x3.heap.size a3 p3 n3 cap3 c3 l3 u3 L3) := P3.out.later hb
        replace P4 : Hid (Pr z9 y1.heap.size x3.heap.size (x3.heap.size + 1) a4 p4 n4 cap4 c4 l4 u4 L4) := P4.out.later hb
        clear hb
        obtain ⟨⟨ra1, rL1, rc1, rl1, ru1⟩, hr⟩ : ∃ r, stBoth false a1 L1 (c1, l1, u1) a3 L3 (c3, l3, u3) = r := ⟨_, rfl⟩
        have HR1 : Hid (stBoth false a1 L1 (c1, l1, u1) a3 L3 (c3, l3, u3) = (ra1, rL1, rc1, rl1, ru1)) := hr
        clear hr
        obtain ⟨_, P1_0, P1_1, P1_2, P1_3, P1_4, _⟩ := P1.out.box
        obtain ⟨_, P3_0, P3_1, P3_2, P3_3, P3_4, _⟩ := P3.out.box
        obtain ⟨_, P4_0, P4_1, P4_2, P4_3, P4_4, _⟩ := P4.out.box
        go_wp2_with fail
        refine (stJoin_impl _ true true _ _ _ _ _ _ L1 _ _ _ _ _ L3 _ _ _ P1.out.row P3.out.row).mono ?_
        rintro e z10 ⟨v9, rfl, hs9, hb⟩
        clear P1_0 P1_1 P1_2 P1_3 P1_4 P3_0 P3_1 P3_2 P3_3 P3_4 P4_0 P4_1 P4_2 P4_3 P4_4
        rw [HR1.out] at hs9 ⊢
        replace HB : Hid (Below w.heap.size w z10) := HB.out.trans (hb.mono HB.out.size)
        replace P1 : Hid (Pr z10 w.heap.size x1.heap.size x1.heap.size a1 p1 n1 cap1 c1 l1 u1 L1) := P1.out.later hb
        replace I6 : Hid (IntsAt true z10 w.heap.size x1.heap.size (.slice p6 n6 cap6) R) := I6.out.later hb
        replace I7 : Hid (IntsAt true z10 w.heap.size x1.heap.size (.slice p7 n7 cap7) C) := I7.out.later hb
        replace P3 : Hid (Pr z10 y1.heap.size x3.heap.size x3.heap.size a3 p3 n3 cap3 c3 l3 u3 L3) := P3.out.later hb
        replace P4 : Hid (Pr z10 y1.heap.size x3.heap.size (x3.heap.size + 1) a4 p4 n4 cap4 c4 l4 u4 L4) := P4.out.later hb
        clear hb
        obtain ⟨p9, cap9, hv9⟩ := hs9.shape
        simp only at hv9 hs9
        subst hv9
        have S9 : Hid (SpsAt true z10 z9.heap.size z10.heap.size (.slice p9 rL1.length cap9) rL1) := hs9
        clear hs9
        obtain ⟨_, P1_0, P1_1, P1_2, P1_3, P1_4, _⟩ := P1.out.box
        obtain ⟨_, P3_0, P3_1, P3_2, P3_3, P3_4, _⟩ := P3.out.box
        obtain ⟨_, P4_0, P4_1, P4_2, P4_3, P4_4, _⟩ := P4.out.box
        go_wp2_with fail
        refine (stHas_impl _ true true true _ _ _ _ _ _ _ _ _ _ rL1 _ _ _ R C S9.out I6.out I7.out).mono ?_
        rintro e z11 ⟨rfl, hb⟩
        clear P1_0 P1_1 P1_2 P1_3 P1_4 P3_0 P3_1 P3_2 P3_3 P3_4 P4_0 P4_1 P4_2 P4_3 P4_4
        rw [has_join_l HA.out HH.out HR1.out]
        replace HB : Hid (Below w.heap.size w z11) := HB.out.trans (hb.mono HB.out.size)
        replace P1 : Hid (Pr z11 w.heap.size x1.heap.size x1.heap.size a1 p1 n1 cap1 c1 l1 u1 L1) := P1.out.later hb
        replace I6 : Hid (IntsAt true z11 w.heap.size x1.heap.size (.slice p6 n6 cap6) R) := I6.out.later hb
        replace I7 : Hid (IntsAt true z11 w.heap.size x1.heap.size (.slice p7 n7 cap7) C) := I7.out.later hb
        replace P3 : Hid (Pr z11 y1.heap.size x3.heap.size x3.heap.size a3 p3 n3 cap3 c3 l3 u3 L3) := P3.out.later hb
        replace P4 : Hid (Pr z11 y1.heap.size x3.heap.size (x3.heap.size + 1) a4 p4 n4 cap4 c4 l4 u4 L4) := P4.out.later hb
        clear hb
        clear S9
        obtain ⟨⟨ra2, rL2, rc2, rl2, ru2⟩, hr⟩ : ∃ r, stBoth false a4 L4 (c4, l4, u4) a1 L1 (c1, l1, u1) = r := ⟨_, rfl⟩
        have HR2 : Hid (stBoth false a4 L4 (c4, l4, u4) a1 L1 (c1, l1, u1) = (ra2, rL2, rc2, rl2, ru2)) := hr
        clear hr
        obtain ⟨_, P1_0, P1_1, P1_2, P1_3, P1_4, _⟩ := P1.out.box
        obtain ⟨_, P3_0, P3_1, P3_2, P3_3, P3_4, _⟩ := P3.out.box
        obtain ⟨_, P4_0, P4_1, P4_2, P4_3, P4_4, _⟩ := P4.out.box
        go_wp2_with fail
        refine (stJoin_impl _ true true _ _ _ _ _ _ L4 _ _ _ _ _ L1 _ _ _ P4.out.row P1.out.row).mono ?_
        rintro e z12 ⟨v9, rfl, hs9, hb⟩
        clear P1_0 P1_1 P1_2 P1_3 P1_4 P3_0 P3_1 P3_2 P3_3 P3_4 P4_0 P4_1 P4_2 P4_3 P4_4
        rw [HR2.out] at hs9 ⊢
        replace HB : Hid (Below w.heap.size w z12) := HB.out.trans (hb.mono HB.out.size)
        replace P1 : Hid (Pr z12 w.heap.size x1.heap.size x1.heap.size a1 p1 n1 cap1 c1 l1 u1 L1) := P1.out.later hb
        replace I6 : Hid (IntsAt true z12 w.heap.size x1.heap.size (.slice p6 n6 cap6) R) := I6.out.later hb
        replace I7 : Hid (IntsAt true z12 w.heap.size x1.heap.size (.slice p7 n7 cap7) C) := I7.out.later hb
        replace P3 : Hid (Pr z12 y1.heap.size x3.heap.size x3.heap.size a3 p3 n3 cap3 c3 l3 u3 L3) := P3.out.later hb
        replace P4 : Hid (Pr z12 y1.heap.size x3.heap.size (x3.heap.size + 1) a4 p4 n4 cap4 c4 l4 u4 L4) := P4.out.later hb
        clear hb
        obtain ⟨p9, cap9, hv9⟩ := hs9.shape
        simp only at hv9 hs9
        subst hv9
        have S9 : Hid (SpsAt true z12 z11.heap.size z12.heap.size (.slice p9 rL2.length cap9) rL2) := hs9
        clear hs9
        obtain ⟨_, P1_0, P1_1, P1_2, P1_3, P1_4, _⟩ := P1.out.box
        obtain ⟨_, P3_0, P3_1, P3_2, P3_3, P3_4, _⟩ := P3.out.box
        obtain ⟨_, P4_0, P4_1, P4_2, P4_3, P4_4, _⟩ := P4.out.box
        go_wp2_with fail
        refine (stHas_impl _ true true true _ _ _ _ _ _ _ _ _ _ rL2 _ _ _ R C S9.out I6.out I7.out).mono ?_
        rintro e z13 ⟨rfl, hb⟩
        clear P1_0 P1_1 P1_2 P1_3 P1_4 P3_0 P3_1 P3_2 P3_3 P3_4 P4_0 P4_1 P4_2 P4_3 P4_4
        rw [has_join_r HBo.out HH.out HR2.out]
        replace HB : Hid (Below w.heap.size w z13) := HB.out.trans (hb.mono HB.out.size)
        replace P1 : Hid (Pr z13 w.heap.size x1.heap.size x1.heap.size a1 p1 n1 cap1 c1 l1 u1 L1) := P1.out.later hb
        replace I6 : Hid (IntsAt true z13 w.heap.size x1.heap.size (.slice p6 n6 cap6) R) := I6.out.later hb
        replace I7 : Hid (IntsAt true z13 w.heap.size x1.heap.size (.slice p7 n7 cap7) C) := I7.out.later hb
        replace P3 : Hid (Pr z13 y1.heap.size x3.heap.size x3.heap.size a3 p3 n3 cap3 c3 l3 u3 L3) := P3.out.later hb
        replace P4 : Hid (Pr z13 y1.heap.size x3.heap.size (x3.heap.size + 1) a4 p4 n4 cap4 c4 l4 u4 L4) := P4.out.later hb
        clear hb
        clear S9
        obtain ⟨⟨ra3, rL3, rc3, rl3, ru3⟩, hr⟩ : ∃ r, stBoth true a1 L1 (c1, l1, u1) a4 L4 (c4, l4, u4) = r := ⟨_, rfl⟩
        have HR3 : Hid (stBoth true a1 L1 (c1, l1, u1) a4 L4 (c4, l4, u4) = (ra3, rL3, rc3, rl3, ru3)) := hr
        clear hr
        obtain ⟨_, P1_0, P1_1, P1_2, P1_3, P1_4, _⟩ := P1.out.box
        obtain ⟨_, P3_0, P3_1, P3_2, P3_3, P3_4, _⟩ := P3.out.box
        obtain ⟨_, P4_0, P4_1, P4_2, P4_3, P4_4, _⟩ := P4.out.box
        go_wp2_with fail
        refine (stWide_impl _ true true _ _ _ _ _ _ L1 _ _ _ _ _ L4 _ _ _ P1.out.row P4.out.row).mono ?_
        rintro e z14 ⟨v9, rfl, hs9, hb⟩
        clear P1_0 P1_1 P1_2 P1_3 P1_4 P3_0 P3_1 P3_2 P3_3 P3_4 P4_0 P4_1 P4_2 P4_3 P4_4
        rw [HR3.out] at hs9 ⊢
        replace HB : Hid (Below w.heap.size w z14) := HB.out.trans (hb.mono HB.out.size)
        replace P1 : Hid (Pr z14 w.heap.size x1.heap.size x1.heap.size a1 p1 n1 cap1 c1 l1 u1 L1) := P1.out.later hb
        replace I6 : Hid (IntsAt true z14 w.heap.size x1.heap.size (.slice p6 n6 cap6) R) := I6.out.later hb
        replace I7 : Hid (IntsAt true z14 w.heap.size x1.heap.size (.slice p7 n7 cap7) C) := I7.out.later hb
        replace P3 : Hid (Pr z14 y1.heap.size x3.heap.size x3.heap.size a3 p3 n3 cap3 c3 l3 u3 L3) := P3.out.later hb
        replace P4 : Hid (Pr z14 y1.heap.size x3.heap.size (x3.heap.size + 1) a4 p4 n4 cap4 c4 l4 u4 L4) := P4.out.later hb
        clear hb
        obtain ⟨p9, cap9, hv9⟩ := hs9.shape
        simp only at hv9 hs9
        subst hv9
        have S9 : Hid (SpsAt true z14 z13.heap.size z14.heap.size (.slice p9 rL3.length cap9) rL3) := hs9
        clear hs9
        obtain ⟨_, P1_0, P1_1, P1_2, P1_3, P1_4, _⟩ := P1.out.box
        obtain ⟨_, P3_0, P3_1, P3_2, P3_3, P3_4, _⟩ := P3.out.box
        obtain ⟨_, P4_0, P4_1, P4_2, P4_3, P4_4, _⟩ := P4.out.box
        go_wp2_with fail
        refine (stHas_impl _ true true true _ _ _ _ _ _ _ _ _ _ rL3 _ _ _ R C S9.out I6.out I7.out).mono ?_
        rintro e z15 ⟨rfl, hb⟩
        clear P1_0 P1_1 P1_2 P1_3 P1_4 P3_0 P3_1 P3_2 P3_3 P3_4 P4_0 P4_1 P4_2 P4_3 P4_4
        rw [has_wide_l HBo.out HH.out HR3.out]
        replace HB : Hid (Below w.heap.size w z15) := HB.out.trans (hb.mono HB.out.size)
        replace P1 : Hid (Pr z15 w.heap.size x1.heap.size x1.heap.size a1 p1 n1 cap1 c1 l1 u1 L1) := P1.out.later hb
        replace I6 : Hid (IntsAt true z15 w.heap.size x1.heap.size (.slice p6 n6 cap6) R) := I6.out.later hb
        replace I7 : Hid (IntsAt true z15 w.heap.size x1.heap.size (.slice p7 n7 cap7) C) := I7.out.later hb
        replace P3 : Hid (Pr z15 y1.heap.size x3.heap.size x3.heap.size a3 p3 n3 cap3 c3 l3 u3 L3) := P3.out.later hb
        replace P4 : Hid (Pr z15 y1.heap.size x3.heap.size (x3.heap.size + 1) a4 p4 n4 cap4 c4 l4 u4 L4) := P4.out.later hb
        clear hb
        clear S9
        obtain ⟨⟨ra4, rL4, rc4, rl4, ru4⟩, hr⟩ : ∃ r, stBoth true a3 L3 (c3, l3, u3) a1 L1 (c1, l1, u1) = r := ⟨_, rfl⟩
        have HR4 : Hid (stBoth true a3 L3 (c3, l3, u3) a1 L1 (c1, l1, u1) = (ra4, rL4, rc4, rl4, ru4)) := hr
        clear hr
        obtain ⟨_, P1_0, P1_1, P1_2, P1_3, P1_4, _⟩ := P1.out.box
        obtain ⟨_, P3_0, P3_1, P3_2, P3_3, P3_4, _⟩ := P3.out.box
        obtain ⟨_, P4_0, P4_1, P4_2, P4_3, P4_4, _⟩ := P4.out.box
        go_wp2_with fail
        refine (stWide_impl _ true true _ _ _ _ _ _ L3 _ _ _ _ _ L1 _ _ _ P3.out.row P1.out.row).mono ?_
        rintro e z16 ⟨v9, rfl, hs9, hb⟩
        clear P1_0 P1_1 P1_2 P1_3 P1_4 P3_0 P3_1 P3_2 P3_3 P3_4 P4_0 P4_1 P4_2 P4_3 P4_4
        rw [HR4.out] at hs9 ⊢
        replace HB : Hid (Below w.heap.size w z16) := HB.out.trans (hb.mono HB.out.size)
        replace P1 : Hid (Pr z16 w.heap.size x1.heap.size x1.heap.size a1 p1 n1 cap1 c1 l1 u1 L1) := P1.out.later hb
        replace I6 : Hid (IntsAt true z16 w.heap.size x1.heap.size (.slice p6 n6 cap6) R) := I6.out.later hb
        replace I7 : Hid (IntsAt true z16 w.heap.size x1.heap.size (.slice p7 n7 cap7) C) := I7.out.later hb
        replace P3 : Hid (Pr z16 y1.heap.size x3.heap.size x3.heap.size a3 p3 n3 cap3 c3 l3 u3 L3) := P3.out.later hb
        replace P4 : Hid (Pr z16 y1.heap.size x3.heap.size (x3.heap.size + 1) a4 p4 n4 cap4 c4 l4 u4 L4) := P4.out.later hb
        clear hb
        obtain ⟨p9, cap9, hv9⟩ := hs9.shape
        simp only at hv9 hs9
        subst hv9
        have S9 : Hid (SpsAt true z16 z15.heap.size z16.heap.size (.slice p9 rL4.length cap9) rL4) := hs9
        clear hs9
        obtain ⟨_, P1_0, P1_1, P1_2, P1_3, P1_4, _⟩ := P1.out.box
        obtain ⟨_, P3_0, P3_1, P3_2, P3_3, P3_4, _⟩ := P3.out.box
        obtain ⟨_, P4_0, P4_1, P4_2, P4_3, P4_4, _⟩ := P4.out.box
        go_wp2_with fail
        refine (stHas_impl _ true true true _ _ _ _ _ _ _ _ _ _ rL4 _ _ _ R C S9.out I6.out I7.out).mono ?_
        rintro e z17 ⟨rfl, hb⟩
        clear P1_0 P1_1 P1_2 P1_3 P1_4 P3_0 P3_1 P3_2 P3_3 P3_4 P4_0 P4_1 P4_2 P4_3 P4_4
        rw [has_wide_r HA.out HH.out HR4.out]
        replace HB : Hid (Below w.heap.size w z17) := HB.out.trans (hb.mono HB.out.size)
        replace P1 : Hid (Pr z17 w.heap.size x1.heap.size x1.heap.size a1 p1 n1 cap1 c1 l1 u1 L1) := P1.out.later hb
        replace I6 : Hid (IntsAt true z17 w.heap.size x1.heap.size (.slice p6 n6 cap6) R) := I6.out.later hb
        replace I7 : Hid (IntsAt true z17 w.heap.size x1.heap.size (.slice p7 n7 cap7) C) := I7.out.later hb
        replace P3 : Hid (Pr z17 y1.heap.size x3.heap.size x3.heap.size a3 p3 n3 cap3 c3 l3 u3 L3) := P3.out.later hb
        replace P4 : Hid (Pr z17 y1.heap.size x3.heap.size (x3.heap.size + 1) a4 p4 n4 cap4 c4 l4 u4 L4) := P4.out.later hb
        clear hb
        clear S9
        cases hgi : stIn a1 L1 (c1, l1, u1) a3 L3 (c3, l3, u3)
        · skip
          have HG : Hid (stIn a1 L1 (c1, l1, u1) a3 L3 (c3, l3, u3) = false) := hgi
          clear hgi
          obtain ⟨_, P1_0, P1_1, P1_2, P1_3, P1_4, _⟩ := P1.out.box
          obtain ⟨_, P3_0, P3_1, P3_2, P3_3, P3_4, _⟩ := P3.out.box
          obtain ⟨_, P4_0, P4_1, P4_2, P4_3, P4_4, _⟩ := P4.out.box
          go_wp2_with fail
          refine (stIn_impl _ true true _ _ _ _ _ _ L1 _ _ _ _ _ L3 _ _ _ P1.out.row P3.out.row).mono ?_
          rintro e z18 ⟨rfl, hb⟩
          clear P1_0 P1_1 P1_2 P1_3 P1_4 P3_0 P3_1 P3_2 P3_3 P3_4 P4_0 P4_1 P4_2 P4_3 P4_4
          rw [HG.out]
          replace HB : Hid (Below w.heap.size w z18) := HB.out.trans (hb.mono HB.out.size)
          replace P1 : Hid (Pr z18 w.heap.size x1.heap.size x1.heap.size a1 p1 n1 cap1 c1 l1 u1 L1) := P1.out.later hb
          replace I6 : Hid (IntsAt true z18 w.heap.size x1.heap.size (.slice p6 n6 cap6) R) := I6.out.later hb
          replace I7 : Hid (IntsAt true z18 w.heap.size x1.heap.size (.slice p7 n7 cap7) C) := I7.out.later hb
          replace P3 : Hid (Pr z18 y1.heap.size x3.heap.size x3.heap.size a3 p3 n3 cap3 c3 l3 u3 L3) := P3.out.later hb
          replace P4 : Hid (Pr z18 y1.heap.size x3.heap.size (x3.heap.size + 1) a4 p4 n4 cap4 c4 l4 u4 L4) := P4.out.later hb
          clear hb
          obtain ⟨_, P1_0, P1_1, P1_2, P1_3, P1_4, _⟩ := P1.out.box
          obtain ⟨_, P3_0, P3_1, P3_2, P3_3, P3_4, _⟩ := P3.out.box
          obtain ⟨_, P4_0, P4_1, P4_2, P4_3, P4_4, _⟩ := P4.out.box
          go_wp2_with fail
          go_ret
          exact ⟨rfl, HB.out⟩
        · skip
          have HG : Hid (stIn a1 L1 (c1, l1, u1) a3 L3 (c3, l3, u3) = true) := hgi
          clear hgi
          obtain ⟨_, P1_0, P1_1, P1_2, P1_3, P1_4, _⟩ := P1.out.box
          obtain ⟨_, P3_0, P3_1, P3_2, P3_3, P3_4, _⟩ := P3.out.box
          obtain ⟨_, P4_0, P4_1, P4_2, P4_3, P4_4, _⟩ := P4.out.box
          go_wp2_with fail
          refine (stIn_impl _ true true _ _ _ _ _ _ L1 _ _ _ _ _ L3 _ _ _ P1.out.row P3.out.row).mono ?_
          rintro e z19 ⟨rfl, hb⟩
          clear P1_0 P1_1 P1_2 P1_3 P1_4 P3_0 P3_1 P3_2 P3_3 P3_4 P4_0 P4_1 P4_2 P4_3 P4_4
          rw [HG.out]
          replace HB : Hid (Below w.heap.size w z19) := HB.out.trans (hb.mono HB.out.size)
          replace P1 : Hid (Pr z19 w.heap.size x1.heap.size x1.heap.size a1 p1 n1 cap1 c1 l1 u1 L1) := P1.out.later hb
          replace I6 : Hid (IntsAt true z19 w.heap.size x1.heap.size (.slice p6 n6 cap6) R) := I6.out.later hb
          replace I7 : Hid (IntsAt true z19 w.heap.size x1.heap.size (.slice p7 n7 cap7) C) := I7.out.later hb
          replace P3 : Hid (Pr z19 y1.heap.size x3.heap.size x3.heap.size a3 p3 n3 cap3 c3 l3 u3 L3) := P3.out.later hb
          replace P4 : Hid (Pr z19 y1.heap.size x3.heap.size (x3.heap.size + 1) a4 p4 n4 cap4 c4 l4 u4 L4) := P4.out.later hb
          clear hb
          obtain ⟨_, P1_0, P1_1, P1_2, P1_3, P1_4, _⟩ := P1.out.box
          obtain ⟨_, P3_0, P3_1, P3_2, P3_3, P3_4, _⟩ := P3.out.box
          obtain ⟨_, P4_0, P4_1, P4_2, P4_3, P4_4, _⟩ := P4.out.box
          go_wp2_with fail
          refine (stHas_impl _ true true true _ _ _ _ _ _ _ _ _ _ L3 _ _ _ R C P3.out.row I6.out I7.out).mono ?_
          rintro e z20 ⟨rfl, hb⟩
          clear P1_0 P1_1 P1_2 P1_3 P1_4 P3_0 P3_1 P3_2 P3_3 P3_4 P4_0 P4_1 P4_2 P4_3 P4_4
          rw [has_up HA.out HH.out HG.out]
          replace HB : Hid (Below w.heap.size w z20) := HB.out.trans (hb.mono HB.out.size)
          replace P1 : Hid (Pr z20 w.heap.size x1.heap.size x1.heap.size a1 p1 n1 cap1 c1 l1 u1 L1) := P1.out.later hb
          replace I6 : Hid (IntsAt true z20 w.heap.size x1.heap.size (.slice p6 n6 cap6) R) := I6.out.later hb
          replace I7 : Hid (IntsAt true z20 w.heap.size x1.heap.size (.slice p7 n7 cap7) C) := I7.out.later hb
          replace P3 : Hid (Pr z20 y1.heap.size x3.heap.size x3.heap.size a3 p3 n3 cap3 c3 l3 u3 L3) := P3.out.later hb
          replace P4 : Hid (Pr z20 y1.heap.size x3.heap.size (x3.heap.size + 1) a4 p4 n4 cap4 c4 l4 u4 L4) := P4.out.later hb
          clear hb
          obtain ⟨_, P1_0, P1_1, P1_2, P1_3, P1_4, _⟩ := P1.out.box
          obtain ⟨_, P3_0, P3_1, P3_2, P3_3, P3_4, _⟩ := P3.out.box
          obtain ⟨_, P4_0, P4_1, P4_2, P4_3, P4_4, _⟩ := P4.out.box
          go_wp2_with fail
          go_ret
          exact ⟨rfl, HB.out⟩
end Go.Proofs.Ytdomalclpjijaaa
