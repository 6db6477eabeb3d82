import Derived.Test.YtdomalclpjijaaaB36
import Derived.Test.YtdomalclpjijaaaB5
import Derived.Test.YtdomalclpjijaaaB37
import Derived.Test.YtdomalclpjijaaaB29
import Derived.Test.YtdomalclpjijaaaB35
/-
  What a law on two states and their join keeps: the arguments, and states in boxes with their rows.
-/
namespace Go.Proofs.Ytdomalclpjijaaa
open Go.RowKit
set_option linter.unusedVariables false
set_option linter.unusedSimpArgs false

theorem stB_len (wd a : Bool) (L : List Sp) (c : Sp) (b : Bool) (M : List Sp) (d : Sp) : (stBoth wd a L c b M d).2.1.length ≤ 3 := by
  unfold stBoth
  split
  · rename_i h
    simp only [Bool.and_eq_true] at h
    have h1 := stOk_len0 h.1
    have h2 := stOk_len0 h.2
    split
    · split
      · simp [row3]
      · simp only; omega
    · simp only; omega
  · simp [noSt]
/-- the arguments of a law on two states, as they lie -/
structure Ag (w y : World) (va vb : Value) (a c : Bool) (l u : Int) (b d : Bool) (l' u' : Int) (L M : List Sp) : Prop where
  below : Below w.heap.size w y
  ba : Bx5 y w.heap.size (.bool a) va (.bool c) (.int .i64 l) (.int .i64 u)
  bb : Bx5 y (w.heap.size + 1) (.bool b) vb (.bool d) (.int .i64 l') (.int .i64 u')
  ra : SpsAt false y 0 w.heap.size va L
  rb : SpsAt false y 0 w.heap.size vb M
theorem Ag.later {w y z : World} {va vb : Value} {a c : Bool} {l u : Int} {b d : Bool} {l' u' : Int} {L M : List Sp} (h : Ag w y va vb a c l u b d l' u' L M) (hb : Below y.heap.size y z) : Ag w z va vb a c l u b d l' u' L M :=
  ⟨h.below.trans (hb.mono h.below.size), h.ba.later hb, h.bb.later hb, h.ra.later hb, h.rb.later hb⟩
theorem Ag.within {w y z : World} {va vb : Value} {a c : Bool} {l u : Int} {b d : Bool} {l' u' : Int} {L M : List Sp} {B E : Nat} (h : Ag w y va vb a c l u b d l' u' L M) (hw : Within B E y z) (hB : w.heap.size + 2 ≤ B) : Ag w z va vb a c l u b d l' u' L M :=
  ⟨h.below.trans (hw.below.mono (by omega)), h.ba.within hw (.inl (by omega)), h.bb.within hw (.inl (by omega)), h.ra.within hw (.inl (by omega)), h.rb.within hw (.inl (by omega))⟩
/-- a state in a box, its row -/
structure Pr (y : World) (B N m : Nat) (a : Bool) (p : Option Addr) (n cap : Nat) (c : Bool) (l u : Int) (L : List Sp) : Prop where
  box : Bx5 y m (.bool a) (.slice p n cap) (.bool c) (.int .i64 l) (.int .i64 u)
  row : SpsAt true y B N (.slice p n cap) L
theorem Pr.later {y z : World} {B N m : Nat} {a : Bool} {p : Option Addr} {n cap : Nat} {c : Bool} {l u : Int} {L : List Sp} (h : Pr y B N m a p n cap c l u L) (hb : Below y.heap.size y z) : Pr z B N m a p n cap c l u L := ⟨h.box.later hb, h.row.later hb⟩
theorem Pr.within {y z : World} {B N m : Nat} {a : Bool} {p : Option Addr} {n cap : Nat} {c : Bool} {l u : Int} {L : List Sp} {B' E' : Nat} (h : Pr y B N m a p n cap c l u L) (hw : Within B' E' y z) (h1 : m < B' ∨ E' ≤ m) (h2 : N ≤ B' ∨ E' ≤ B) : Pr z B N m a p n cap c l u L := ⟨h.box.within hw h1, h.row.within hw h2⟩
theorem Pr.mark {y z : World} {B N m : Nat} {a : Bool} {p : Option Addr} {n cap : Nat} {c : Bool} {l u : Int} {L M : List Sp} {B' E' : Nat} (h : Pr y B N m a p n cap c l u L) (hw : Within B' E' y z) (h1 : m < B' ∨ E' ≤ m) (h2 : SpsAt true z B N (.slice p n cap) M) : Pr z B N m a p n cap c l u M := ⟨h.box.within hw h1, h2⟩
/-- a new box for a state whose row is new -/
theorem Pr.made {y : World} {B : Nat} {a : Bool} {p : Option Addr} {n cap : Nat} {c : Bool} {l u : Int} {L : List Sp} (t : TypeId) (h : SpsAt true y B y.heap.size (.slice p n cap) L) : Pr (y.alloc (.cells #[.bool a, .slice p n cap, .bool c, .int .i64 l, .int .i64 u] t)) B y.heap.size y.heap.size a p n cap c l u L :=
  ⟨Bx5.new _ _ _ _ _ _ _, h.later ((Below.refl _ _).alloc (Nat.le_refl _) _)⟩

end Go.Proofs.Ytdomalclpjijaaa

/-
  The walk of the law FnStateOrder.
-/
namespace Go.Proofs.Ytdomalclpjijaaa
open Go.RowKit
set_option linter.unusedVariables false
set_option linter.unusedSimpArgs false

set_option maxHeartbeats 8000000 in
theorem stateOrder_walk (a : Option Addr) (len cap : Nat) (zs : List Int) (b : Option Addr) (lenb capb : Nat) (zb : List Int) (w : World) (h : IsRow w a len cap zs) (h' : IsRow w b lenb capb zb) :
    Calls Try.prog 7 #[.slice a len cap, .slice b lenb capb] w fun e w' => e = .returned (.bool true) ∧ Below w.heap.size w w' := by
  have hm : len ≤ maxLen := by
    rcases h with ⟨rfl, rfl, rfl, rfl⟩ | ⟨x, rfl, hl, hm, hz, hcell, hwz⟩
    · unfold maxLen; omega
    · omega
  unfold maxLen at hm
  have hm' : lenb ≤ maxLen := by
    rcases h' with ⟨rfl, rfl, rfl, rfl⟩ | ⟨x, rfl, hl, hm, hz, hcell, hwz⟩
    · unfold maxLen; omega
    · omega
  unfold maxLen at hm'
  by_cases hl : (1048576 : Int) < (len : Int)
  · clear h h'
    go_enter Try.func7, Try.ntmps7
    go_wp2
    go_ret
    exact ⟨rfl, by go_grown⟩
  by_cases hl2 : (1048576 : Int) < (lenb : Int)
  · clear h h'
    go_enter Try.func7, Try.ntmps7
    go_wp2
    go_ret
    exact ⟨rfl, by go_grown⟩
  go_enter Try.func7, Try.ntmps7
  go_wp2_with fail
  refine (drawStateIn_any a len cap zs _ h).mono ?_
  rintro e x1 hg
  obtain ⟨a1, L1, c1, l1, u1, p1, cap1, a2, L2, c2, l2, u2, p2, cap2, rfl, hn1, hn2, hs1, hs2, hb⟩ := hg.it
  clear hg
  generalize hq1 : L1.length = n1 at hn1 hs1 ⊢
  generalize hq2 : L2.length = n2 at hn2 hs2 ⊢
  have HQ1 : Hid ((L1.length = n1 ∧ L1.length ≤ 1000) ∧ (L2.length = n2 ∧ L2.length ≤ 1000)) := ⟨⟨hq1, by omega⟩, ⟨hq2, by omega⟩⟩
  clear hq1 hq2 hn1 hn2
  have hA : Below x1.heap.size x1 ((x1.alloc (.cells #[.bool a1, .slice p1 n1 cap1, .bool c1, .int .i64 l1, .int .i64 u1] 31)).alloc (.cells #[.bool a2, .slice p2 n2 cap2, .bool c2, .int .i64 l2, .int .i64 u2] 31)) := ((Below.refl _ _).alloc (Nat.le_refl _) _).alloc (by simp) _
  have P1 : Hid (Pr ((x1.alloc (.cells #[.bool a1, .slice p1 n1 cap1, .bool c1, .int .i64 l1, .int .i64 u1] 31)).alloc (.cells #[.bool a2, .slice p2 n2 cap2, .bool c2, .int .i64 l2, .int .i64 u2] 31)) w.heap.size x1.heap.size x1.heap.size a1 p1 n1 cap1 c1 l1 u1 L1) := ⟨(Bx5.new _ _ _ _ _ _ _).alloc _, hs1.later hA⟩
  have P2 : Hid (Pr ((x1.alloc (.cells #[.bool a1, .slice p1 n1 cap1, .bool c1, .int .i64 l1, .int .i64 u1] 31)).alloc (.cells #[.bool a2, .slice p2 n2 cap2, .bool c2, .int .i64 l2, .int .i64 u2] 31)) w.heap.size x1.heap.size (x1.heap.size + 1) a2 p2 n2 cap2 c2 l2 u2 L2) := ⟨by have h9 := Bx5.new (x1.alloc (.cells #[.bool a1, .slice p1 n1 cap1, .bool c1, .int .i64 l1, .int .i64 u1] 31)) (.bool a2) (.slice p2 n2 cap2) (.bool c2) (.int .i64 l2) (.int .i64 u2) 31; rw [World.size_alloc] at h9; exact h9, hs2.later hA⟩
  have HB : Hid (Below w.heap.size w ((x1.alloc (.cells #[.bool a1, .slice p1 n1 cap1, .bool c1, .int .i64 l1, .int .i64 u1] 31)).alloc (.cells #[.bool a2, .slice p2 n2 cap2, .bool c2, .int .i64 l2, .int .i64 u2] 31))) := hb.trans (hA.mono hb.size)
  have HW : Hid (IsRow ((x1.alloc (.cells #[.bool a1, .slice p1 n1 cap1, .bool c1, .int .i64 l1, .int .i64 u1] 31)).alloc (.cells #[.bool a2, .slice p2 n2 cap2, .bool c2, .int .i64 l2, .int .i64 u2] 31)) b lenb capb zb) := IsRow.later (IsRow.later h' hb) (hA.mono hb.size |> fun t => (hA : Below x1.heap.size x1 ((x1.alloc (.cells #[.bool a1, .slice p1 n1 cap1, .bool c1, .int .i64 l1, .int .i64 u1] 31)).alloc (.cells #[.bool a2, .slice p2 n2 cap2, .bool c2, .int .i64 l2, .int .i64 u2] 31))))
  clear hA hs1 hs2 hb h h'
  go_wp2_with fail
  generalize ((x1.alloc (.cells #[.bool a1, .slice p1 n1 cap1, .bool c1, .int .i64 l1, .int .i64 u1] 31)).alloc (.cells #[.bool a2, .slice p2 n2 cap2, .bool c2, .int .i64 l2, .int .i64 u2] 31)) = y1 at P1 P2 HB HW ⊢
  refine (drawStateIn_any b lenb capb zb _ HW.out).mono ?_
  rintro e x3 hg
  obtain ⟨a3, L3, c3, l3, u3, p3, cap3, a4, L4, c4, l4, u4, p4, cap4, rfl, hn3, hn4, hs3, hs4, hb⟩ := hg.it
  clear hg
  replace HB : Hid (Below w.heap.size w x3) := HB.out.trans (hb.mono HB.out.size)
  replace P1 : Hid (Pr x3 w.heap.size x1.heap.size x1.heap.size a1 p1 n1 cap1 c1 l1 u1 L1) := P1.out.later hb
  replace P2 : Hid (Pr x3 w.heap.size x1.heap.size (x1.heap.size + 1) a2 p2 n2 cap2 c2 l2 u2 L2) := P2.out.later hb
  generalize hq3 : L3.length = n3 at hn3 hs3 ⊢
  generalize hq4 : L4.length = n4 at hn4 hs4 ⊢
  have HQ3 : Hid ((L3.length = n3 ∧ L3.length ≤ 1000) ∧ (L4.length = n4 ∧ L4.length ≤ 1000)) := ⟨⟨hq3, by omega⟩, ⟨hq4, by omega⟩⟩
  clear hq3 hq4 hn3 hn4
  have hA : Below x3.heap.size x3 ((x3.alloc (.cells #[.bool a3, .slice p3 n3 cap3, .bool c3, .int .i64 l3, .int .i64 u3] 31)).alloc (.cells #[.bool a4, .slice p4 n4 cap4, .bool c4, .int .i64 l4, .int .i64 u4] 31)) := ((Below.refl _ _).alloc (Nat.le_refl _) _).alloc (by simp) _
  have P3 : Hid (Pr ((x3.alloc (.cells #[.bool a3, .slice p3 n3 cap3, .bool c3, .int .i64 l3, .int .i64 u3] 31)).alloc (.cells #[.bool a4, .slice p4 n4 cap4, .bool c4, .int .i64 l4, .int .i64 u4] 31)) y1.heap.size x3.heap.size x3.heap.size a3 p3 n3 cap3 c3 l3 u3 L3) := ⟨(Bx5.new _ _ _ _ _ _ _).alloc _, hs3.later hA⟩
  have P4 : Hid (Pr ((x3.alloc (.cells #[.bool a3, .slice p3 n3 cap3, .bool c3, .int .i64 l3, .int .i64 u3] 31)).alloc (.cells #[.bool a4, .slice p4 n4 cap4, .bool c4, .int .i64 l4, .int .i64 u4] 31)) y1.heap.size x3.heap.size (x3.heap.size + 1) a4 p4 n4 cap4 c4 l4 u4 L4) := ⟨by have h9 := Bx5.new (x3.alloc (.cells #[.bool a3, .slice p3 n3 cap3, .bool c3, .int .i64 l3, .int .i64 u3] 31)) (.bool a4) (.slice p4 n4 cap4) (.bool c4) (.int .i64 l4) (.int .i64 u4) 31; rw [World.size_alloc] at h9; exact h9, hs4.later hA⟩
  replace HB : Hid (Below w.heap.size w ((x3.alloc (.cells #[.bool a3, .slice p3 n3 cap3, .bool c3, .int .i64 l3, .int .i64 u3] 31)).alloc (.cells #[.bool a4, .slice p4 n4 cap4, .bool c4, .int .i64 l4, .int .i64 u4] 31))) := HB.out.trans (hA.mono HB.out.size)
  replace P1 : Hid (Pr ((x3.alloc (.cells #[.bool a3, .slice p3 n3 cap3, .bool c3, .int .i64 l3, .int .i64 u3] 31)).alloc (.cells #[.bool a4, .slice p4 n4 cap4, .bool c4, .int .i64 l4, .int .i64 u4] 31)) w.heap.size x1.heap.size x1.heap.size a1 p1 n1 cap1 c1 l1 u1 L1) := P1.out.later hA
  replace P2 : Hid (Pr ((x3.alloc (.cells #[.bool a3, .slice p3 n3 cap3, .bool c3, .int .i64 l3, .int .i64 u3] 31)).alloc (.cells #[.bool a4, .slice p4 n4 cap4, .bool c4, .int .i64 l4, .int .i64 u4] 31)) w.heap.size x1.heap.size (x1.heap.size + 1) a2 p2 n2 cap2 c2 l2 u2 L2) := P2.out.later hA
  clear hA hs3 hs4 hb HW
  obtain ⟨_, P1_0, P1_1, P1_2, P1_3, P1_4, _⟩ := P1.out.box
  obtain ⟨_, P2_0, P2_1, P2_2, P2_3, P2_4, _⟩ := P2.out.box
  go_wp2_with fail
  clear P1_0 P1_1 P1_2 P1_3 P1_4 P2_0 P2_1 P2_2 P2_3 P2_4
  generalize ((x3.alloc (.cells #[.bool a3, .slice p3 n3 cap3, .bool c3, .int .i64 l3, .int .i64 u3] 31)).alloc (.cells #[.bool a4, .slice p4 n4 cap4, .bool c4, .int .i64 l4, .int .i64 u4] 31)) = y3 at P1 P2 P3 P4 HB ⊢
  clear P4
  obtain ⟨gg, hg⟩ : ∃ z, stIn a1 L1 (c1, l1, u1) a2 L2 (c2, l2, u2) = z := ⟨_, rfl⟩
  refine (stIn_impl _ true true _ _ _ _ _ _ L1 _ _ _ _ _ L2 _ _ _ P1.out.row P2.out.row).mono ?_
  rintro e z1 ⟨rfl, hb⟩
  rw [hg]
  replace HB : Hid (Below w.heap.size w z1) := HB.out.trans (hb.mono HB.out.size)
  replace P1 : Hid (Pr z1 w.heap.size x1.heap.size x1.heap.size a1 p1 n1 cap1 c1 l1 u1 L1) := P1.out.later hb
  replace P2 : Hid (Pr z1 w.heap.size x1.heap.size (x1.heap.size + 1) a2 p2 n2 cap2 c2 l2 u2 L2) := P2.out.later hb
  replace P3 : Hid (Pr z1 y1.heap.size x3.heap.size x3.heap.size a3 p3 n3 cap3 c3 l3 u3 L3) := P3.out.later hb
  clear hb
  have HG : Hid (stIn a1 L1 (c1, l1, u1) a2 L2 (c2, l2, u2) = gg) := hg
  clear hg
  cases gg
  · skip
    obtain ⟨_, P1_0, P1_1, P1_2, P1_3, P1_4, _⟩ := P1.out.box
    obtain ⟨_, P2_0, P2_1, P2_2, P2_3, P2_4, _⟩ := P2.out.box
    obtain ⟨_, P3_0, P3_1, P3_2, P3_3, P3_4, _⟩ := P3.out.box
    go_wp2_with fail
    refine (stIn_spec _ true true _ _ _ _ _ _ L1 _ _ _ _ _ L2 _ _ _ P1.out.row P2.out.row).mono ?_
    rintro e z2 ⟨rfl, hb⟩
    clear P1_0 P1_1 P1_2 P1_3 P1_4 P2_0 P2_1 P2_2 P2_3 P2_4 P3_0 P3_1 P3_2 P3_3 P3_4
    rw [HG.out]
    replace HB : Hid (Below w.heap.size w z2) := HB.out.trans (hb.mono HB.out.size)
    replace P1 : Hid (Pr z2 w.heap.size x1.heap.size x1.heap.size a1 p1 n1 cap1 c1 l1 u1 L1) := P1.out.later hb
    replace P2 : Hid (Pr z2 w.heap.size x1.heap.size (x1.heap.size + 1) a2 p2 n2 cap2 c2 l2 u2 L2) := P2.out.later hb
    replace P3 : Hid (Pr z2 y1.heap.size x3.heap.size x3.heap.size a3 p3 n3 cap3 c3 l3 u3 L3) := P3.out.later hb
    clear hb
    cases hoa : stOk a1 L1 (c1, l1, u1)
    · skip
      have HA : Hid (stOk a1 L1 (c1, l1, u1) = false) := hoa
      clear hoa
      obtain ⟨_, P1_0, P1_1, P1_2, P1_3, P1_4, _⟩ := P1.out.box
      obtain ⟨_, P2_0, P2_1, P2_2, P2_3, P2_4, _⟩ := P2.out.box
      obtain ⟨_, P3_0, P3_1, P3_2, P3_3, P3_4, _⟩ := P3.out.box
      go_wp2_with fail
      refine (stOk_spec _ true _ _ _ _ L1 _ _ _ P1.out.row).mono ?_
      rintro e z3 ⟨rfl, hb⟩
      clear P1_0 P1_1 P1_2 P1_3 P1_4 P2_0 P2_1 P2_2 P2_3 P2_4 P3_0 P3_1 P3_2 P3_3 P3_4
      rw [HA.out]
      replace HB : Hid (Below w.heap.size w z3) := HB.out.trans (hb.mono HB.out.size)
      replace P1 : Hid (Pr z3 w.heap.size x1.heap.size x1.heap.size a1 p1 n1 cap1 c1 l1 u1 L1) := P1.out.later hb
      replace P2 : Hid (Pr z3 w.heap.size x1.heap.size (x1.heap.size + 1) a2 p2 n2 cap2 c2 l2 u2 L2) := P2.out.later hb
      replace P3 : Hid (Pr z3 y1.heap.size x3.heap.size x3.heap.size a3 p3 n3 cap3 c3 l3 u3 L3) := P3.out.later hb
      clear hb
      obtain ⟨_, P1_0, P1_1, P1_2, P1_3, P1_4, _⟩ := P1.out.box
      obtain ⟨_, P2_0, P2_1, P2_2, P2_3, P2_4, _⟩ := P2.out.box
      obtain ⟨_, P3_0, P3_1, P3_2, P3_3, P3_4, _⟩ := P3.out.box
      go_wp2_with fail
      refine (stIn_spec _ true true _ _ _ _ _ _ L1 _ _ _ _ _ L2 _ _ _ P1.out.row P2.out.row).mono ?_
      rintro e z4 ⟨rfl, hb⟩
      clear P1_0 P1_1 P1_2 P1_3 P1_4 P2_0 P2_1 P2_2 P2_3 P2_4 P3_0 P3_1 P3_2 P3_3 P3_4
      rw [HG.out]
      replace HB : Hid (Below w.heap.size w z4) := HB.out.trans (hb.mono HB.out.size)
      replace P1 : Hid (Pr z4 w.heap.size x1.heap.size x1.heap.size a1 p1 n1 cap1 c1 l1 u1 L1) := P1.out.later hb
      replace P2 : Hid (Pr z4 w.heap.size x1.heap.size (x1.heap.size + 1) a2 p2 n2 cap2 c2 l2 u2 L2) := P2.out.later hb
      replace P3 : Hid (Pr z4 y1.heap.size x3.heap.size x3.heap.size a3 p3 n3 cap3 c3 l3 u3 L3) := P3.out.later hb
      clear hb
      obtain ⟨_, P1_0, P1_1, P1_2, P1_3, P1_4, _⟩ := P1.out.box
      obtain ⟨_, P2_0, P2_1, P2_2, P2_3, P2_4, _⟩ := P2.out.box
      obtain ⟨_, P3_0, P3_1, P3_2, P3_3, P3_4, _⟩ := P3.out.box
      go_wp2_with fail
      go_ret
      exact ⟨rfl, HB.out⟩
    · skip
      have HA : Hid (stOk a1 L1 (c1, l1, u1) = true) := hoa
      clear hoa
      obtain ⟨_, P1_0, P1_1, P1_2, P1_3, P1_4, _⟩ := P1.out.box
      obtain ⟨_, P2_0, P2_1, P2_2, P2_3, P2_4, _⟩ := P2.out.box
      obtain ⟨_, P3_0, P3_1, P3_2, P3_3, P3_4, _⟩ := P3.out.box
      go_wp2_with fail
      refine (stOk_spec _ true _ _ _ _ L1 _ _ _ P1.out.row).mono ?_
      rintro e z5 ⟨rfl, hb⟩
      clear P1_0 P1_1 P1_2 P1_3 P1_4 P2_0 P2_1 P2_2 P2_3 P2_4 P3_0 P3_1 P3_2 P3_3 P3_4
      rw [HA.out]
      replace HB : Hid (Below w.heap.size w z5) := HB.out.trans (hb.mono HB.out.size)
      replace P1 : Hid (Pr z5 w.heap.size x1.heap.size x1.heap.size a1 p1 n1 cap1 c1 l1 u1 L1) := P1.out.later hb
      replace P2 : Hid (Pr z5 w.heap.size x1.heap.size (x1.heap.size + 1) a2 p2 n2 cap2 c2 l2 u2 L2) := P2.out.later hb
      replace P3 : Hid (Pr z5 y1.heap.size x3.heap.size x3.heap.size a3 p3 n3 cap3 c3 l3 u3 L3) := P3.out.later hb
      clear hb
      cases hob : stOk a2 L2 (c2, l2, u2)
      · skip
        have HBo : Hid (stOk a2 L2 (c2, l2, u2) = false) := hob
        clear hob
        obtain ⟨_, P1_0, P1_1, P1_2, P1_3, P1_4, _⟩ := P1.out.box
        obtain ⟨_, P2_0, P2_1, P2_2, P2_3, P2_4, _⟩ := P2.out.box
        obtain ⟨_, P3_0, P3_1, P3_2, P3_3, P3_4, _⟩ := P3.out.box
        go_wp2_with fail
        refine (stOk_spec _ true _ _ _ _ L2 _ _ _ P2.out.row).mono ?_
        rintro e z6 ⟨rfl, hb⟩
        clear P1_0 P1_1 P1_2 P1_3 P1_4 P2_0 P2_1 P2_2 P2_3 P2_4 P3_0 P3_1 P3_2 P3_3 P3_4
        rw [HBo.out]
        replace HB : Hid (Below w.heap.size w z6) := HB.out.trans (hb.mono HB.out.size)
        replace P1 : Hid (Pr z6 w.heap.size x1.heap.size x1.heap.size a1 p1 n1 cap1 c1 l1 u1 L1) := P1.out.later hb
        replace P2 : Hid (Pr z6 w.heap.size x1.heap.size (x1.heap.size + 1) a2 p2 n2 cap2 c2 l2 u2 L2) := P2.out.later hb
        replace P3 : Hid (Pr z6 y1.heap.size x3.heap.size x3.heap.size a3 p3 n3 cap3 c3 l3 u3 L3) := P3.out.later hb
        clear hb
        obtain ⟨_, P1_0, P1_1, P1_2, P1_3, P1_4, _⟩ := P1.out.box
        obtain ⟨_, P2_0, P2_1, P2_2, P2_3, P2_4, _⟩ := P2.out.box
        obtain ⟨_, P3_0, P3_1, P3_2, P3_3, P3_4, _⟩ := P3.out.box
        go_wp2_with fail
        refine (stIn_spec _ true true _ _ _ _ _ _ L1 _ _ _ _ _ L2 _ _ _ P1.out.row P2.out.row).mono ?_
        rintro e z7 ⟨rfl, hb⟩
        clear P1_0 P1_1 P1_2 P1_3 P1_4 P2_0 P2_1 P2_2 P2_3 P2_4 P3_0 P3_1 P3_2 P3_3 P3_4
        rw [HG.out]
        replace HB : Hid (Below w.heap.size w z7) := HB.out.trans (hb.mono HB.out.size)
        replace P1 : Hid (Pr z7 w.heap.size x1.heap.size x1.heap.size a1 p1 n1 cap1 c1 l1 u1 L1) := P1.out.later hb
        replace P2 : Hid (Pr z7 w.heap.size x1.heap.size (x1.heap.size + 1) a2 p2 n2 cap2 c2 l2 u2 L2) := P2.out.later hb
        replace P3 : Hid (Pr z7 y1.heap.size x3.heap.size x3.heap.size a3 p3 n3 cap3 c3 l3 u3 L3) := P3.out.later hb
        clear hb
        obtain ⟨_, P1_0, P1_1, P1_2, P1_3, P1_4, _⟩ := P1.out.box
        obtain ⟨_, P2_0, P2_1, P2_2, P2_3, P2_4, _⟩ := P2.out.box
        obtain ⟨_, P3_0, P3_1, P3_2, P3_3, P3_4, _⟩ := P3.out.box
        go_wp2_with fail
        go_ret
        exact ⟨rfl, HB.out⟩
      · skip
        have HBo : Hid (stOk a2 L2 (c2, l2, u2) = true) := hob
        clear hob
        obtain ⟨_, P1_0, P1_1, P1_2, P1_3, P1_4, _⟩ := P1.out.box
        obtain ⟨_, P2_0, P2_1, P2_2, P2_3, P2_4, _⟩ := P2.out.box
        obtain ⟨_, P3_0, P3_1, P3_2, P3_3, P3_4, _⟩ := P3.out.box
        go_wp2_with fail
        refine (stOk_spec _ true _ _ _ _ L2 _ _ _ P2.out.row).mono ?_
        rintro e z8 ⟨rfl, hb⟩
        clear P1_0 P1_1 P1_2 P1_3 P1_4 P2_0 P2_1 P2_2 P2_3 P2_4 P3_0 P3_1 P3_2 P3_3 P3_4
        rw [HBo.out]
        replace HB : Hid (Below w.heap.size w z8) := HB.out.trans (hb.mono HB.out.size)
        replace P1 : Hid (Pr z8 w.heap.size x1.heap.size x1.heap.size a1 p1 n1 cap1 c1 l1 u1 L1) := P1.out.later hb
        replace P2 : Hid (Pr z8 w.heap.size x1.heap.size (x1.heap.size + 1) a2 p2 n2 cap2 c2 l2 u2 L2) := P2.out.later hb
        replace P3 : Hid (Pr z8 y1.heap.size x3.heap.size x3.heap.size a3 p3 n3 cap3 c3 l3 u3 L3) := P3.out.later hb
        clear hb
        cases hoc : stOk a3 L3 (c3, l3, u3)
        · skip
          have HC : Hid (stOk a3 L3 (c3, l3, u3) = false) := hoc
          clear hoc
          obtain ⟨_, P1_0, P1_1, P1_2, P1_3, P1_4, _⟩ := P1.out.box
          obtain ⟨_, P2_0, P2_1, P2_2, P2_3, P2_4, _⟩ := P2.out.box
          obtain ⟨_, P3_0, P3_1, P3_2, P3_3, P3_4, _⟩ := P3.out.box
          go_wp2_with fail
          refine (stOk_spec _ true _ _ _ _ L3 _ _ _ P3.out.row).mono ?_
          rintro e z9 ⟨rfl, hb⟩
          clear P1_0 P1_1 P1_2 P1_3 P1_4 P2_0 P2_1 P2_2 P2_3 P2_4 P3_0 P3_1 P3_2 P3_3 P3_4
          rw [HC.out]
          replace HB : Hid (Below w.heap.size w z9) := HB.out.trans (hb.mono HB.out.size)
          replace P1 : Hid (Pr z9 w.heap.size x1.heap.size x1.heap.size a1 p1 n1 cap1 c1 l1 u1 L1) := P1.out.later hb
          replace P2 : Hid (Pr z9 w.heap.size x1.heap.size (x1.heap.size + 1) a2 p2 n2 cap2 c2 l2 u2 L2) := P2.out.later hb
          replace P3 : Hid (Pr z9 y1.heap.size x3.heap.size x3.heap.size a3 p3 n3 cap3 c3 l3 u3 L3) := P3.out.later hb
          clear hb
          obtain ⟨_, P1_0, P1_1, P1_2, P1_3, P1_4, _⟩ := P1.out.box
          obtain ⟨_, P2_0, P2_1, P2_2, P2_3, P2_4, _⟩ := P2.out.box
          obtain ⟨_, P3_0, P3_1, P3_2, P3_3, P3_4, _⟩ := P3.out.box
          go_wp2_with fail
          refine (stIn_spec _ true true _ _ _ _ _ _ L1 _ _ _ _ _ L2 _ _ _ P1.out.row P2.out.row).mono ?_
          rintro e z10 ⟨rfl, hb⟩
          clear P1_0 P1_1 P1_2 P1_3 P1_4 P2_0 P2_1 P2_2 P2_3 P2_4 P3_0 P3_1 P3_2 P3_3 P3_4
          rw [HG.out]
          replace HB : Hid (Below w.heap.size w z10) := HB.out.trans (hb.mono HB.out.size)
          replace P1 : Hid (Pr z10 w.heap.size x1.heap.size x1.heap.size a1 p1 n1 cap1 c1 l1 u1 L1) := P1.out.later hb
          replace P2 : Hid (Pr z10 w.heap.size x1.heap.size (x1.heap.size + 1) a2 p2 n2 cap2 c2 l2 u2 L2) := P2.out.later hb
          replace P3 : Hid (Pr z10 y1.heap.size x3.heap.size x3.heap.size a3 p3 n3 cap3 c3 l3 u3 L3) := P3.out.later hb
          clear hb
          obtain ⟨_, P1_0, P1_1, P1_2, P1_3, P1_4, _⟩ := P1.out.box
          obtain ⟨_, P2_0, P2_1, P2_2, P2_3, P2_4, _⟩ := P2.out.box
          obtain ⟨_, P3_0, P3_1, P3_2, P3_3, P3_4, _⟩ := P3.out.box
          go_wp2_with fail
          go_ret
          exact ⟨rfl, HB.out⟩
        · skip
          have HC : Hid (stOk a3 L3 (c3, l3, u3) = true) := hoc
          clear hoc
          obtain ⟨_, P1_0, P1_1, P1_2, P1_3, P1_4, _⟩ := P1.out.box
          obtain ⟨_, P2_0, P2_1, P2_2, P2_3, P2_4, _⟩ := P2.out.box
          obtain ⟨_, P3_0, P3_1, P3_2, P3_3, P3_4, _⟩ := P3.out.box
          go_wp2_with fail
          refine (stOk_spec _ true _ _ _ _ L3 _ _ _ P3.out.row).mono ?_
          rintro e z11 ⟨rfl, hb⟩
          clear P1_0 P1_1 P1_2 P1_3 P1_4 P2_0 P2_1 P2_2 P2_3 P2_4 P3_0 P3_1 P3_2 P3_3 P3_4
          rw [HC.out]
          replace HB : Hid (Below w.heap.size w z11) := HB.out.trans (hb.mono HB.out.size)
          replace P1 : Hid (Pr z11 w.heap.size x1.heap.size x1.heap.size a1 p1 n1 cap1 c1 l1 u1 L1) := P1.out.later hb
          replace P2 : Hid (Pr z11 w.heap.size x1.heap.size (x1.heap.size + 1) a2 p2 n2 cap2 c2 l2 u2 L2) := P2.out.later hb
          replace P3 : Hid (Pr z11 y1.heap.size x3.heap.size x3.heap.size a3 p3 n3 cap3 c3 l3 u3 L3) := P3.out.later hb
          clear hb
          obtain ⟨_, P1_0, P1_1, P1_2, P1_3, P1_4, _⟩ := P1.out.box
          obtain ⟨_, P2_0, P2_1, P2_2, P2_3, P2_4, _⟩ := P2.out.box
          obtain ⟨_, P3_0, P3_1, P3_2, P3_3, P3_4, _⟩ := P3.out.box
          go_wp2_with fail
          refine (stIn_impl _ true true _ _ _ _ _ _ L1 _ _ _ _ _ L1 _ _ _ P1.out.row P1.out.row).mono ?_
          rintro e z12 ⟨rfl, hb⟩
          clear P1_0 P1_1 P1_2 P1_3 P1_4 P2_0 P2_1 P2_2 P2_3 P2_4 P3_0 P3_1 P3_2 P3_3 P3_4
          rw [stIn_refl HA.out]
          replace HB : Hid (Below w.heap.size w z12) := HB.out.trans (hb.mono HB.out.size)
          replace P1 : Hid (Pr z12 w.heap.size x1.heap.size x1.heap.size a1 p1 n1 cap1 c1 l1 u1 L1) := P1.out.later hb
          replace P2 : Hid (Pr z12 w.heap.size x1.heap.size (x1.heap.size + 1) a2 p2 n2 cap2 c2 l2 u2 L2) := P2.out.later hb
          replace P3 : Hid (Pr z12 y1.heap.size x3.heap.size x3.heap.size a3 p3 n3 cap3 c3 l3 u3 L3) := P3.out.later hb
          clear hb
          obtain ⟨_, P1_0, P1_1, P1_2, P1_3, P1_4, _⟩ := P1.out.box
          obtain ⟨_, P2_0, P2_1, P2_2, P2_3, P2_4, _⟩ := P2.out.box
          obtain ⟨_, P3_0, P3_1, P3_2, P3_3, P3_4, _⟩ := P3.out.box
          go_wp2_with fail
          go_ret
          exact ⟨rfl, HB.out⟩
  · skip
    obtain ⟨_, P1_0, P1_1, P1_2, P1_3, P1_4, _⟩ := P1.out.box
    obtain ⟨_, P2_0, P2_1, P2_2, P2_3, P2_4, _⟩ := P2.out.box
    obtain ⟨_, P3_0, P3_1, P3_2, P3_3, P3_4, _⟩ := P3.out.box
    go_wp2_with fail
    refine (stIn_spec _ true true _ _ _ _ _ _ L1 _ _ _ _ _ L2 _ _ _ P1.out.row P2.out.row).mono ?_
    rintro e z13 ⟨rfl, hb⟩
    clear P1_0 P1_1 P1_2 P1_3 P1_4 P2_0 P2_1 P2_2 P2_3 P2_4 P3_0 P3_1 P3_2 P3_3 P3_4
    rw [HG.out]
    replace HB : Hid (Below w.heap.size w z13) := HB.out.trans (hb.mono HB.out.size)
    replace P1 : Hid (Pr z13 w.heap.size x1.heap.size x1.heap.size a1 p1 n1 cap1 c1 l1 u1 L1) := P1.out.later hb
    replace P2 : Hid (Pr z13 w.heap.size x1.heap.size (x1.heap.size + 1) a2 p2 n2 cap2 c2 l2 u2 L2) := P2.out.later hb
    replace P3 : Hid (Pr z13 y1.heap.size x3.heap.size x3.heap.size a3 p3 n3 cap3 c3 l3 u3 L3) := P3.out.later hb
    clear hb
    cases hoa : stOk a1 L1 (c1, l1, u1)
    · skip
      have HA : Hid (stOk a1 L1 (c1, l1, u1) = false) := hoa
      clear hoa
      obtain ⟨_, P1_0, P1_1, P1_2, P1_3, P1_4, _⟩ := P1.out.box
      obtain ⟨_, P2_0, P2_1, P2_2, P2_3, P2_4, _⟩ := P2.out.box
      obtain ⟨_, P3_0, P3_1, P3_2, P3_3, P3_4, _⟩ := P3.out.box
      go_wp2_with fail
      refine (stOk_spec _ true _ _ _ _ L1 _ _ _ P1.out.row).mono ?_
      rintro e z14 ⟨rfl, hb⟩
      clear P1_0 P1_1 P1_2 P1_3 P1_4 P2_0 P2_1 P2_2 P2_3 P2_4 P3_0 P3_1 P3_2 P3_3 P3_4
      rw [HA.out]
      replace HB : Hid (Below w.heap.size w z14) := HB.out.trans (hb.mono HB.out.size)
      replace P1 : Hid (Pr z14 w.heap.size x1.heap.size x1.heap.size a1 p1 n1 cap1 c1 l1 u1 L1) := P1.out.later hb
      replace P2 : Hid (Pr z14 w.heap.size x1.heap.size (x1.heap.size + 1) a2 p2 n2 cap2 c2 l2 u2 L2) := P2.out.later hb
      replace P3 : Hid (Pr z14 y1.heap.size x3.heap.size x3.heap.size a3 p3 n3 cap3 c3 l3 u3 L3) := P3.out.later hb
      clear hb
      obtain ⟨_, P1_0, P1_1, P1_2, P1_3, P1_4, _⟩ := P1.out.box
      obtain ⟨_, P2_0, P2_1, P2_2, P2_3, P2_4, _⟩ := P2.out.box
      obtain ⟨_, P3_0, P3_1, P3_2, P3_3, P3_4, _⟩ := P3.out.box
      go_wp2_with fail
      refine (stIn_spec _ true true _ _ _ _ _ _ L1 _ _ _ _ _ L2 _ _ _ P1.out.row P2.out.row).mono ?_
      rintro e z15 ⟨rfl, hb⟩
      clear P1_0 P1_1 P1_2 P1_3 P1_4 P2_0 P2_1 P2_2 P2_3 P2_4 P3_0 P3_1 P3_2 P3_3 P3_4
      rw [HG.out]
      replace HB : Hid (Below w.heap.size w z15) := HB.out.trans (hb.mono HB.out.size)
      replace P1 : Hid (Pr z15 w.heap.size x1.heap.size x1.heap.size a1 p1 n1 cap1 c1 l1 u1 L1) := P1.out.later hb
      replace P2 : Hid (Pr z15 w.heap.size x1.heap.size (x1.heap.size + 1) a2 p2 n2 cap2 c2 l2 u2 L2) := P2.out.later hb
      replace P3 : Hid (Pr z15 y1.heap.size x3.heap.size x3.heap.size a3 p3 n3 cap3 c3 l3 u3 L3) := P3.out.later hb
      clear hb
      obtain ⟨_, P1_0, P1_1, P1_2, P1_3, P1_4, _⟩ := P1.out.box
      obtain ⟨_, P2_0, P2_1, P2_2, P2_3, P2_4, _⟩ := P2.out.box
      obtain ⟨_, P3_0, P3_1, P3_2, P3_3, P3_4, _⟩ := P3.out.box
      go_wp2_with fail
      go_ret
      exact ⟨rfl, HB.out⟩
    · skip
      have HA : Hid (stOk a1 L1 (c1, l1, u1) = true) := hoa
      clear hoa
      obtain ⟨_, P1_0, P1_1, P1_2, P1_3, P1_4, _⟩ := P1.out.box
      obtain ⟨_, P2_0, P2_1, P2_2, P2_3, P2_4, _⟩ := P2.out.box
      obtain ⟨_, P3_0, P3_1, P3_2, P3_3, P3_4, _⟩ := P3.out.box
      go_wp2_with fail
      refine (stOk_spec _ true _ _ _ _ L1 _ _ _ P1.out.row).mono ?_
      rintro e z16 ⟨rfl, hb⟩
      clear P1_0 P1_1 P1_2 P1_3 P1_4 P2_0 P2_1 P2_2 P2_3 P2_4 P3_0 P3_1 P3_2 P3_3 P3_4
      rw [HA.out]
      replace HB : Hid (Below w.heap.size w z16) := HB.out.trans (hb.mono HB.out.size)
      replace P1 : Hid (Pr z16 w.heap.size x1.heap.size x1.heap.size a1 p1 n1 cap1 c1 l1 u1 L1) := P1.out.later hb
      replace P2 : Hid (Pr z16 w.heap.size x1.heap.size (x1.heap.size + 1) a2 p2 n2 cap2 c2 l2 u2 L2) := P2.out.later hb
      replace P3 : Hid (Pr z16 y1.heap.size x3.heap.size x3.heap.size a3 p3 n3 cap3 c3 l3 u3 L3) := P3.out.later hb
      clear hb
      cases hob : stOk a2 L2 (c2, l2, u2)
      · skip
        have HBo : Hid (stOk a2 L2 (c2, l2, u2) = false) := hob
        clear hob
        obtain ⟨_, P1_0, P1_1, P1_2, P1_3, P1_4, _⟩ := P1.out.box
        obtain ⟨_, P2_0, P2_1, P2_2, P2_3, P2_4, _⟩ := P2.out.box
        obtain ⟨_, P3_0, P3_1, P3_2, P3_3, P3_4, _⟩ := P3.out.box
        go_wp2_with fail
        refine (stOk_spec _ true _ _ _ _ L2 _ _ _ P2.out.row).mono ?_
        rintro e z17 ⟨rfl, hb⟩
        clear P1_0 P1_1 P1_2 P1_3 P1_4 P2_0 P2_1 P2_2 P2_3 P2_4 P3_0 P3_1 P3_2 P3_3 P3_4
        rw [HBo.out]
        replace HB : Hid (Below w.heap.size w z17) := HB.out.trans (hb.mono HB.out.size)
        replace P1 : Hid (Pr z17 w.heap.size x1.heap.size x1.heap.size a1 p1 n1 cap1 c1 l1 u1 L1) := P1.out.later hb
        replace P2 : Hid (Pr z17 w.heap.size x1.heap.size (x1.heap.size + 1) a2 p2 n2 cap2 c2 l2 u2 L2) := P2.out.later hb
        replace P3 : Hid (Pr z17 y1.heap.size x3.heap.size x3.heap.size a3 p3 n3 cap3 c3 l3 u3 L3) := P3.out.later hb
        clear hb
        obtain ⟨_, P1_0, P1_1, P1_2, P1_3, P1_4, _⟩ := P1.out.box
        obtain ⟨_, P2_0, P2_1, P2_2, P2_3, P2_4, _⟩ := P2.out.box
        obtain ⟨_, P3_0, P3_1, P3_2, P3_3, P3_4, _⟩ := P3.out.box
        go_wp2_with fail
        refine (stIn_spec _ true true _ _ _ _ _ _ L1 _ _ _ _ _ L2 _ _ _ P1.out.row P2.out.row).mono ?_
        rintro e z18 ⟨rfl, hb⟩
        clear P1_0 P1_1 P1_2 P1_3 P1_4 P2_0 P2_1 P2_2 P2_3 P2_4 P3_0 P3_1 P3_2 P3_3 P3_4
        rw [HG.out]
        replace HB : Hid (Below w.heap.size w z18) := HB.out.trans (hb.mono HB.out.size)
        replace P1 : Hid (Pr z18 w.heap.size x1.heap.size x1.heap.size a1 p1 n1 cap1 c1 l1 u1 L1) := P1.out.later hb
        replace P2 : Hid (Pr z18 w.heap.size x1.heap.size (x1.heap.size + 1) a2 p2 n2 cap2 c2 l2 u2 L2) := P2.out.later hb
        replace P3 : Hid (Pr z18 y1.heap.size x3.heap.size x3.heap.size a3 p3 n3 cap3 c3 l3 u3 L3) := P3.out.later hb
        clear hb
        obtain ⟨_, P1_0, P1_1, P1_2, P1_3, P1_4, _⟩ := P1.out.box
        obtain ⟨_, P2_0, P2_1, P2_2, P2_3, P2_4, _⟩ := P2.out.box
        obtain ⟨_, P3_0, P3_1, P3_2, P3_3, P3_4, _⟩ := P3.out.box
        go_wp2_with fail
        go_ret
        exact ⟨rfl, HB.out⟩
      · skip
        have HBo : Hid (stOk a2 L2 (c2, l2, u2) = true) := hob
        clear hob
        obtain ⟨_, P1_0, P1_1, P1_2, P1_3, P1_4, _⟩ := P1.out.box
        obtain ⟨_, P2_0, P2_1, P2_2, P2_3, P2_4, _⟩ := P2.out.box
        obtain ⟨_, P3_0, P3_1, P3_2, P3_3, P3_4, _⟩ := P3.out.box
        go_wp2_with fail
        refine (stOk_spec _ true _ _ _ _ L2 _ _ _ P2.out.row).mono ?_
        rintro e z19 ⟨rfl, hb⟩
        clear P1_0 P1_1 P1_2 P1_3 P1_4 P2_0 P2_1 P2_2 P2_3 P2_4 P3_0 P3_1 P3_2 P3_3 P3_4
        rw [HBo.out]
        replace HB : Hid (Below w.heap.size w z19) := HB.out.trans (hb.mono HB.out.size)
        replace P1 : Hid (Pr z19 w.heap.size x1.heap.size x1.heap.size a1 p1 n1 cap1 c1 l1 u1 L1) := P1.out.later hb
        replace P2 : Hid (Pr z19 w.heap.size x1.heap.size (x1.heap.size + 1) a2 p2 n2 cap2 c2 l2 u2 L2) := P2.out.later hb
        replace P3 : Hid (Pr z19 y1.heap.size x3.heap.size x3.heap.size a3 p3 n3 cap3 c3 l3 u3 L3) := P3.out.later hb
        clear hb
        cases hoc : stOk a3 L3 (c3, l3, u3)
        · skip
          have HC : Hid (stOk a3 L3 (c3, l3, u3) = false) := hoc
          clear hoc
          obtain ⟨_, P1_0, P1_1, P1_2, P1_3, P1_4, _⟩ := P1.out.box
          obtain ⟨_, P2_0, P2_1, P2_2, P2_3, P2_4, _⟩ := P2.out.box
          obtain ⟨_, P3_0, P3_1, P3_2, P3_3, P3_4, _⟩ := P3.out.box
          go_wp2_with fail
          refine (stOk_spec _ true _ _ _ _ L3 _ _ _ P3.out.row).mono ?_
          rintro e z20 ⟨rfl, hb⟩
          clear P1_0 P1_1 P1_2 P1_3 P1_4 P2_0 P2_1 P2_2 P2_3 P2_4 P3_0 P3_1 P3_2 P3_3 P3_4
          rw [HC.out]
          replace HB : Hid (Below w.heap.size w z20) := HB.out.trans (hb.mono HB.out.size)
          replace P1 : Hid (Pr z20 w.heap.size x1.heap.size x1.heap.size a1 p1 n1 cap1 c1 l1 u1 L1) := P1.out.later hb
          replace P2 : Hid (Pr z20 w.heap.size x1.heap.size (x1.heap.size + 1) a2 p2 n2 cap2 c2 l2 u2 L2) := P2.out.later hb
          replace P3 : Hid (Pr z20 y1.heap.size x3.heap.size x3.heap.size a3 p3 n3 cap3 c3 l3 u3 L3) := P3.out.later hb
          clear hb
          obtain ⟨_, P1_0, P1_1, P1_2, P1_3, P1_4, _⟩ := P1.out.box
          obtain ⟨_, P2_0, P2_1, P2_2, P2_3, P2_4, _⟩ := P2.out.box
          obtain ⟨_, P3_0, P3_1, P3_2, P3_3, P3_4, _⟩ := P3.out.box
          go_wp2_with fail
          refine (stIn_spec _ true true _ _ _ _ _ _ L1 _ _ _ _ _ L2 _ _ _ P1.out.row P2.out.row).mono ?_
          rintro e z21 ⟨rfl, hb⟩
          clear P1_0 P1_1 P1_2 P1_3 P1_4 P2_0 P2_1 P2_2 P2_3 P2_4 P3_0 P3_1 P3_2 P3_3 P3_4
          rw [HG.out]
          replace HB : Hid (Below w.heap.size w z21) := HB.out.trans (hb.mono HB.out.size)
          replace P1 : Hid (Pr z21 w.heap.size x1.heap.size x1.heap.size a1 p1 n1 cap1 c1 l1 u1 L1) := P1.out.later hb
          replace P2 : Hid (Pr z21 w.heap.size x1.heap.size (x1.heap.size + 1) a2 p2 n2 cap2 c2 l2 u2 L2) := P2.out.later hb
          replace P3 : Hid (Pr z21 y1.heap.size x3.heap.size x3.heap.size a3 p3 n3 cap3 c3 l3 u3 L3) := P3.out.later hb
          clear hb
          obtain ⟨_, P1_0, P1_1, P1_2, P1_3, P1_4, _⟩ := P1.out.box
          obtain ⟨_, P2_0, P2_1, P2_2, P2_3, P2_4, _⟩ := P2.out.box
          obtain ⟨_, P3_0, P3_1, P3_2, P3_3, P3_4, _⟩ := P3.out.box
          go_wp2_with fail
          go_ret
          exact ⟨rfl, HB.out⟩
        · skip
          have HC : Hid (stOk a3 L3 (c3, l3, u3) = true) := hoc
          clear hoc
          obtain ⟨_, P1_0, P1_1, P1_2, P1_3, P1_4, _⟩ := P1.out.box
          obtain ⟨_, P2_0, P2_1, P2_2, P2_3, P2_4, _⟩ := P2.out.box
          obtain ⟨_, P3_0, P3_1, P3_2, P3_3, P3_4, _⟩ := P3.out.box
          go_wp2_with fail
          refine (stOk_spec _ true _ _ _ _ L3 _ _ _ P3.out.row).mono ?_
          rintro e z22 ⟨rfl, hb⟩
          clear P1_0 P1_1 P1_2 P1_3 P1_4 P2_0 P2_1 P2_2 P2_3 P2_4 P3_0 P3_1 P3_2 P3_3 P3_4
          rw [HC.out]
          replace HB : Hid (Below w.heap.size w z22) := HB.out.trans (hb.mono HB.out.size)
          replace P1 : Hid (Pr z22 w.heap.size x1.heap.size x1.heap.size a1 p1 n1 cap1 c1 l1 u1 L1) := P1.out.later hb
          replace P2 : Hid (Pr z22 w.heap.size x1.heap.size (x1.heap.size + 1) a2 p2 n2 cap2 c2 l2 u2 L2) := P2.out.later hb
          replace P3 : Hid (Pr z22 y1.heap.size x3.heap.size x3.heap.size a3 p3 n3 cap3 c3 l3 u3 L3) := P3.out.later hb
          clear hb
          obtain ⟨_, P1_0, P1_1, P1_2, P1_3, P1_4, _⟩ := P1.out.box
          obtain ⟨_, P2_0, P2_1, P2_2, P2_3, P2_4, _⟩ := P2.out.box
          obtain ⟨_, P3_0, P3_1, P3_2, P3_3, P3_4, _⟩ := P3.out.box
          go_wp2_with fail
          refine (stIn_impl _ true true _ _ _ _ _ _ L1 _ _ _ _ _ L1 _ _ _ P1.out.row P1.out.row).mono ?_
          rintro e z23 ⟨rfl, hb⟩
          clear P1_0 P1_1 P1_2 P1_3 P1_4 P2_0 P2_1 P2_2 P2_3 P2_4 P3_0 P3_1 P3_2 P3_3 P3_4
          rw [stIn_refl HA.out]
          replace HB : Hid (Below w.heap.size w z23) := HB.out.trans (hb.mono HB.out.size)
          replace P1 : Hid (Pr z23 w.heap.size x1.heap.size x1.heap.size a1 p1 n1 cap1 c1 l1 u1 L1) := P1.out.later hb
          replace P2 : Hid (Pr z23 w.heap.size x1.heap.size (x1.heap.size + 1) a2 p2 n2 cap2 c2 l2 u2 L2) := P2.out.later hb
          replace P3 : Hid (Pr z23 y1.heap.size x3.heap.size x3.heap.size a3 p3 n3 cap3 c3 l3 u3 L3) := P3.out.later hb
          clear hb
          cases hg2 : stIn a2 L2 (c2, l2, u2) a1 L1 (c1, l1, u1)
          · skip
            have HG2 : Hid (stIn a2 L2 (c2, l2, u2) a1 L1 (c1, l1, u1) = false) := hg2
            clear hg2
            obtain ⟨_, P1_0, P1_1, P1_2, P1_3, P1_4, _⟩ := P1.out.box
            obtain ⟨_, P2_0, P2_1, P2_2, P2_3, P2_4, _⟩ := P2.out.box
            obtain ⟨_, P3_0, P3_1, P3_2, P3_3, P3_4, _⟩ := P3.out.box
            go_wp2_with fail
            refine (stIn_impl _ true true _ _ _ _ _ _ L2 _ _ _ _ _ L1 _ _ _ P2.out.row P1.out.row).mono ?_
            rintro e z24 ⟨rfl, hb⟩
            clear P1_0 P1_1 P1_2 P1_3 P1_4 P2_0 P2_1 P2_2 P2_3 P2_4 P3_0 P3_1 P3_2 P3_3 P3_4
            rw [HG2.out]
            replace HB : Hid (Below w.heap.size w z24) := HB.out.trans (hb.mono HB.out.size)
            replace P1 : Hid (Pr z24 w.heap.size x1.heap.size x1.heap.size a1 p1 n1 cap1 c1 l1 u1 L1) := P1.out.later hb
            replace P2 : Hid (Pr z24 w.heap.size x1.heap.size (x1.heap.size + 1) a2 p2 n2 cap2 c2 l2 u2 L2) := P2.out.later hb
            replace P3 : Hid (Pr z24 y1.heap.size x3.heap.size x3.heap.size a3 p3 n3 cap3 c3 l3 u3 L3) := P3.out.later hb
            clear hb
            cases hg3 : stIn a2 L2 (c2, l2, u2) a3 L3 (c3, l3, u3)
            · skip
              have HG3 : Hid (stIn a2 L2 (c2, l2, u2) a3 L3 (c3, l3, u3) = false) := hg3
              clear hg3
              obtain ⟨_, P1_0, P1_1, P1_2, P1_3, P1_4, _⟩ := P1.out.box
              obtain ⟨_, P2_0, P2_1, P2_2, P2_3, P2_4, _⟩ := P2.out.box
              obtain ⟨_, P3_0, P3_1, P3_2, P3_3, P3_4, _⟩ := P3.out.box
              go_wp2_with fail
              refine (stIn_impl _ true true _ _ _ _ _ _ L2 _ _ _ _ _ L3 _ _ _ P2.out.row P3.out.row).mono ?_
              rintro e z25 ⟨rfl, hb⟩
              clear P1_0 P1_1 P1_2 P1_3 P1_4 P2_0 P2_1 P2_2 P2_3 P2_4 P3_0 P3_1 P3_2 P3_3 P3_4
              rw [HG3.out]
              replace HB : Hid (Below w.heap.size w z25) := HB.out.trans (hb.mono HB.out.size)
              replace P1 : Hid (Pr z25 w.heap.size x1.heap.size x1.heap.size a1 p1 n1 cap1 c1 l1 u1 L1) := P1.out.later hb
              replace P2 : Hid (Pr z25 w.heap.size x1.heap.size (x1.heap.size + 1) a2 p2 n2 cap2 c2 l2 u2 L2) := P2.out.later hb
              replace P3 : Hid (Pr z25 y1.heap.size x3.heap.size x3.heap.size a3 p3 n3 cap3 c3 l3 u3 L3) := P3.out.later hb
              clear hb
              obtain ⟨_, P1_0, P1_1, P1_2, P1_3, P1_4, _⟩ := P1.out.box
              obtain ⟨_, P2_0, P2_1, P2_2, P2_3, P2_4, _⟩ := P2.out.box
              obtain ⟨_, P3_0, P3_1, P3_2, P3_3, P3_4, _⟩ := P3.out.box
              go_wp2_with fail
              go_ret
              exact ⟨rfl, HB.out⟩
            · skip
              have HG3 : Hid (stIn a2 L2 (c2, l2, u2) a3 L3 (c3, l3, u3) = true) := hg3
              clear hg3
              obtain ⟨_, P1_0, P1_1, P1_2, P1_3, P1_4, _⟩ := P1.out.box
              obtain ⟨_, P2_0, P2_1, P2_2, P2_3, P2_4, _⟩ := P2.out.box
              obtain ⟨_, P3_0, P3_1, P3_2, P3_3, P3_4, _⟩ := P3.out.box
              go_wp2_with fail
              refine (stIn_impl _ true true _ _ _ _ _ _ L2 _ _ _ _ _ L3 _ _ _ P2.out.row P3.out.row).mono ?_
              rintro e z26 ⟨rfl, hb⟩
              clear P1_0 P1_1 P1_2 P1_3 P1_4 P2_0 P2_1 P2_2 P2_3 P2_4 P3_0 P3_1 P3_2 P3_3 P3_4
              rw [HG3.out]
              replace HB : Hid (Below w.heap.size w z26) := HB.out.trans (hb.mono HB.out.size)
              replace P1 : Hid (Pr z26 w.heap.size x1.heap.size x1.heap.size a1 p1 n1 cap1 c1 l1 u1 L1) := P1.out.later hb
              replace P2 : Hid (Pr z26 w.heap.size x1.heap.size (x1.heap.size + 1) a2 p2 n2 cap2 c2 l2 u2 L2) := P2.out.later hb
              replace P3 : Hid (Pr z26 y1.heap.size x3.heap.size x3.heap.size a3 p3 n3 cap3 c3 l3 u3 L3) := P3.out.later hb
              clear hb
              obtain ⟨_, P1_0, P1_1, P1_2, P1_3, P1_4, _⟩ := P1.out.box
              obtain ⟨_, P2_0, P2_1, P2_2, P2_3, P2_4, _⟩ := P2.out.box
              obtain ⟨_, P3_0, P3_1, P3_2, P3_3, P3_4, _⟩ := P3.out.box
              go_wp2_with fail
              refine (stIn_impl _ true true _ _ _ _ _ _ L1 _ _ _ _ _ L3 _ _ _ P1.out.row P3.out.row).mono ?_
              rintro e z27 ⟨rfl, hb⟩
              clear P1_0 P1_1 P1_2 P1_3 P1_4 P2_0 P2_1 P2_2 P2_3 P2_4 P3_0 P3_1 P3_2 P3_3 P3_4
              rw [stIn_trans HA.out HBo.out HC.out HG.out HG3.out]
              replace HB : Hid (Below w.heap.size w z27) := HB.out.trans (hb.mono HB.out.size)
              replace P1 : Hid (Pr z27 w.heap.size x1.heap.size x1.heap.size a1 p1 n1 cap1 c1 l1 u1 L1) := P1.out.later hb
              replace P2 : Hid (Pr z27 w.heap.size x1.heap.size (x1.heap.size + 1) a2 p2 n2 cap2 c2 l2 u2 L2) := P2.out.later hb
              replace P3 : Hid (Pr z27 y1.heap.size x3.heap.size x3.heap.size a3 p3 n3 cap3 c3 l3 u3 L3) := P3.out.later hb
              clear hb
              obtain ⟨_, P1_0, P1_1, P1_2, P1_3, P1_4, _⟩ := P1.out.box
              obtain ⟨_, P2_0, P2_1, P2_2, P2_3, P2_4, _⟩ := P2.out.box
              obtain ⟨_, P3_0, P3_1, P3_2, P3_3, P3_4, _⟩ := P3.out.box
              go_wp2_with fail
              go_ret
              exact ⟨rfl, HB.out⟩
          · skip
            have HG2 : Hid (stIn a2 L2 (c2, l2, u2) a1 L1 (c1, l1, u1) = true) := hg2
            clear hg2
            obtain ⟨_, P1_0, P1_1, P1_2, P1_3, P1_4, _⟩ := P1.out.box
            obtain ⟨_, P2_0, P2_1, P2_2, P2_3, P2_4, _⟩ := P2.out.box
            obtain ⟨_, P3_0, P3_1, P3_2, P3_3, P3_4, _⟩ := P3.out.box
            go_wp2_with fail
            refine (stIn_impl _ true true _ _ _ _ _ _ L2 _ _ _ _ _ L1 _ _ _ P2.out.row P1.out.row).mono ?_
            rintro e z28 ⟨rfl, hb⟩
            clear P1_0 P1_1 P1_2 P1_3 P1_4 P2_0 P2_1 P2_2 P2_3 P2_4 P3_0 P3_1 P3_2 P3_3 P3_4
            rw [HG2.out]
            replace HB : Hid (Below w.heap.size w z28) := HB.out.trans (hb.mono HB.out.size)
            replace P1 : Hid (Pr z28 w.heap.size x1.heap.size x1.heap.size a1 p1 n1 cap1 c1 l1 u1 L1) := P1.out.later hb
            replace P2 : Hid (Pr z28 w.heap.size x1.heap.size (x1.heap.size + 1) a2 p2 n2 cap2 c2 l2 u2 L2) := P2.out.later hb
            replace P3 : Hid (Pr z28 y1.heap.size x3.heap.size x3.heap.size a3 p3 n3 cap3 c3 l3 u3 L3) := P3.out.later hb
            clear hb
            obtain ⟨_, P1_0, P1_1, P1_2, P1_3, P1_4, _⟩ := P1.out.box
            obtain ⟨_, P2_0, P2_1, P2_2, P2_3, P2_4, _⟩ := P2.out.box
            obtain ⟨_, P3_0, P3_1, P3_2, P3_3, P3_4, _⟩ := P3.out.box
            go_wp2_with fail
            refine (lgState_any _ true true _ _ _ _ _ _ L1 _ _ _ _ _ L2 _ _ _ P1.out.row P2.out.row HQ1.out.1.2 HQ1.out.2.2).mono ?_
            rintro e z29 ⟨rfl, hb⟩
            clear P1_0 P1_1 P1_2 P1_3 P1_4 P2_0 P2_1 P2_2 P2_3 P2_4 P3_0 P3_1 P3_2 P3_3 P3_4
            rw [stIn_anti HA.out HBo.out HG.out HG2.out]
            replace HB : Hid (Below w.heap.size w z29) := HB.out.trans (hb.mono HB.out.size)
            replace P1 : Hid (Pr z29 w.heap.size x1.heap.size x1.heap.size a1 p1 n1 cap1 c1 l1 u1 L1) := P1.out.later hb
            replace P2 : Hid (Pr z29 w.heap.size x1.heap.size (x1.heap.size + 1) a2 p2 n2 cap2 c2 l2 u2 L2) := P2.out.later hb
            replace P3 : Hid (Pr z29 y1.heap.size x3.heap.size x3.heap.size a3 p3 n3 cap3 c3 l3 u3 L3) := P3.out.later hb
            clear hb
            cases hg3 : stIn a2 L2 (c2, l2, u2) a3 L3 (c3, l3, u3)
            · skip
              have HG3 : Hid (stIn a2 L2 (c2, l2, u2) a3 L3 (c3, l3, u3) = false) := hg3
              clear hg3
              obtain ⟨_, P1_0, P1_1, P1_2, P1_3, P1_4, _⟩ := P1.out.box
              obtain ⟨_, P2_0, P2_1, P2_2, P2_3, P2_4, _⟩ := P2.out.box
              obtain ⟨_, P3_0, P3_1, P3_2, P3_3, P3_4, _⟩ := P3.out.box
              go_wp2_with fail
              refine (stIn_impl _ true true _ _ _ _ _ _ L2 _ _ _ _ _ L3 _ _ _ P2.out.row P3.out.row).mono ?_
              rintro e z30 ⟨rfl, hb⟩
              clear P1_0 P1_1 P1_2 P1_3 P1_4 P2_0 P2_1 P2_2 P2_3 P2_4 P3_0 P3_1 P3_2 P3_3 P3_4
              rw [HG3.out]
              replace HB : Hid (Below w.heap.size w z30) := HB.out.trans (hb.mono HB.out.size)
              replace P1 : Hid (Pr z30 w.heap.size x1.heap.size x1.heap.size a1 p1 n1 cap1 c1 l1 u1 L1) := P1.out.later hb
              replace P2 : Hid (Pr z30 w.heap.size x1.heap.size (x1.heap.size + 1) a2 p2 n2 cap2 c2 l2 u2 L2) := P2.out.later hb
              replace P3 : Hid (Pr z30 y1.heap.size x3.heap.size x3.heap.size a3 p3 n3 cap3 c3 l3 u3 L3) := P3.out.later hb
              clear hb
              obtain ⟨_, P1_0, P1_1, P1_2, P1_3, P1_4, _⟩ := P1.out.box
              obtain ⟨_, P2_0, P2_1, P2_2, P2_3, P2_4, _⟩ := P2.out.box
              obtain ⟨_, P3_0, P3_1, P3_2, P3_3, P3_4, _⟩ := P3.out.box
              go_wp2_with fail
              go_ret
              exact ⟨rfl, HB.out⟩
            · skip
              have HG3 : Hid (stIn a2 L2 (c2, l2, u2) a3 L3 (c3, l3, u3) = true) := hg3
              clear hg3
              obtain ⟨_, P1_0, P1_1, P1_2, P1_3, P1_4, _⟩ := P1.out.box
              obtain ⟨_, P2_0, P2_1, P2_2, P2_3, P2_4, _⟩ := P2.out.box
              obtain ⟨_, P3_0, P3_1, P3_2, P3_3, P3_4, _⟩ := P3.out.box
              go_wp2_with fail
              refine (stIn_impl _ true true _ _ _ _ _ _ L2 _ _ _ _ _ L3 _ _ _ P2.out.row P3.out.row).mono ?_
              rintro e z31 ⟨rfl, hb⟩
              clear P1_0 P1_1 P1_2 P1_3 P1_4 P2_0 P2_1 P2_2 P2_3 P2_4 P3_0 P3_1 P3_2 P3_3 P3_4
              rw [HG3.out]
              replace HB : Hid (Below w.heap.size w z31) := HB.out.trans (hb.mono HB.out.size)
              replace P1 : Hid (Pr z31 w.heap.size x1.heap.size x1.heap.size a1 p1 n1 cap1 c1 l1 u1 L1) := P1.out.later hb
              replace P2 : Hid (Pr z31 w.heap.size x1.heap.size (x1.heap.size + 1) a2 p2 n2 cap2 c2 l2 u2 L2) := P2.out.later hb
              replace P3 : Hid (Pr z31 y1.heap.size x3.heap.size x3.heap.size a3 p3 n3 cap3 c3 l3 u3 L3) := P3.out.later hb
              clear hb
              obtain ⟨_, P1_0, P1_1, P1_2, P1_3, P1_4, _⟩ := P1.out.box
              obtain ⟨_, P2_0, P2_1, P2_2, P2_3, P2_4, _⟩ := P2.out.box
              obtain ⟨_, P3_0, P3_1, P3_2, P3_3, P3_4, _⟩ := P3.out.box
              go_wp2_with fail
              refine (stIn_impl _ true true _ _ _ _ _ _ L1 _ _ _ _ _ L3 _ _ _ P1.out.row P3.out.row).mono ?_
              rintro e z32 ⟨rfl, hb⟩
              clear P1_0 P1_1 P1_2 P1_3 P1_4 P2_0 P2_1 P2_2 P2_3 P2_4 P3_0 P3_1 P3_2 P3_3 P3_4
              rw [stIn_trans HA.out HBo.out HC.out HG.out HG3.out]
              replace HB : Hid (Below w.heap.size w z32) := HB.out.trans (hb.mono HB.out.size)
              replace P1 : Hid (Pr z32 w.heap.size x1.heap.size x1.heap.size a1 p1 n1 cap1 c1 l1 u1 L1) := P1.out.later hb
              replace P2 : Hid (Pr z32 w.heap.size x1.heap.size (x1.heap.size + 1) a2 p2 n2 cap2 c2 l2 u2 L2) := P2.out.later hb
              replace P3 : Hid (Pr z32 y1.heap.size x3.heap.size x3.heap.size a3 p3 n3 cap3 c3 l3 u3 L3) := P3.out.later hb
              clear hb
              obtain ⟨_, P1_0, P1_1, P1_2, P1_3, P1_4, _⟩ := P1.out.box
              obtain ⟨_, P2_0, P2_1, P2_2, P2_3, P2_4, _⟩ := P2.out.box
              obtain ⟨_, P3_0, P3_1, P3_2, P3_3, P3_4, _⟩ := P3.out.box
              go_wp2_with fail
              go_ret
              exact ⟨rfl, HB.out⟩
end Go.Proofs.Ytdomalclpjijaaa
