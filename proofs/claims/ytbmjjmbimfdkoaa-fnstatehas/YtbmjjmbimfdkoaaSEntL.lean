/-
  The walk of the exact law of StateEntry.
-/
import Derived.Test.YtbmjjmbimfdkoaaSEntS
namespace Go.Proofs.Ytbmjjmbimfdkoaa
open Go.RowKit
set_option linter.unusedVariables false
set_option linter.unusedSimpArgs false

theorem Bx5.within {x y : World} {B E m : Nat} {v0 v1 v2 v3 v4 : Value} (h : Bx5 x m v0 v1 v2 v3 v4) (hw : Within B E x y) (hm : m < B ∨ E ≤ m) : Bx5 y m v0 v1 v2 v3 v4 :=
  ⟨by rw [← hw.sz]; exact h.lt, (hw.cell _ _ hm).trans h.c0, (hw.cell _ _ hm).trans h.c1, (hw.cell _ _ hm).trans h.c2, (hw.cell _ _ hm).trans h.c3, (hw.cell _ _ hm).trans h.c4, fun k => (hw.frozen _ _).trans (h.fz k)⟩
theorem SpsAt.within {z : Bool} {x y : World} {B E C D : Nat} {v : Value} {L : List Sp} (h : SpsAt z x C D v L) (hw : Within B E x y) (hd : D ≤ B ∨ E ≤ C) : SpsAt z y C D v L :=
  h.stay (by rw [hw.sz]; exact Nat.le_refl _) fun g o h1 h2 => ⟨hw.cell _ _ (by omega), hw.frozen _ _⟩

/-- what a law on one answer keeps: the model's answer in the box m3, the program's in the box m4; their spans lie apart -/
structure EntL (w y : World) (m3 m4 : Nat) (a c : Bool) (l u : Int) (p0 p1 : Option Addr) (n cap0 cap1 : Nat) (L M : List Sp) : Prop where
  below : Below w.heap.size w y
  le3 : w.heap.size ≤ m3
  lt34 : m3 < m4
  k3 : Bx5 y m3 (.bool a) (.slice p0 n cap0) (.bool c) (.int .i64 l) (.int .i64 u)
  s0 : SpsAt true y w.heap.size m3 (.slice p0 n cap0) L
  k4 : Bx5 y m4 (.bool a) (.slice p1 n cap1) (.bool c) (.int .i64 l) (.int .i64 u)
  s1 : SpsAt true y (m3 + 1) m4 (.slice p1 n cap1) M
theorem EntL.later {w y z : World} {m3 m4 : Nat} {a c : Bool} {l u : Int} {p0 p1 : Option Addr} {n cap0 cap1 : Nat} {L M : List Sp} (h : EntL w y m3 m4 a c l u p0 p1 n cap0 cap1 L M) (hb : Below y.heap.size y z) : EntL w z m3 m4 a c l u p0 p1 n cap0 cap1 L M :=
  ⟨h.below.trans (hb.mono h.below.size), h.le3, h.lt34, h.k3.later hb, h.s0.later hb, h.k4.later hb, h.s1.later hb⟩
theorem EntL.alloc {w y : World} {m3 m4 : Nat} {a c : Bool} {l u : Int} {p0 p1 : Option Addr} {n cap0 cap1 : Nat} {L M : List Sp} (h : EntL w y m3 m4 a c l u p0 p1 n cap0 cap1 L M) (o : Obj) : EntL w (y.alloc o) m3 m4 a c l u p0 p1 n cap0 cap1 L M :=
  h.later ((Below.refl _ _).alloc (Nat.le_refl _) _)
theorem EntL.mark {w y z : World} {m3 m4 : Nat} {a c : Bool} {l u : Int} {p0 p1 : Option Addr} {n cap0 cap1 : Nat} {L M M' : List Sp} (h : EntL w y m3 m4 a c l u p0 p1 n cap0 cap1 L M) (hw : Within (m3 + 1) m4 y z) (hs : SpsAt true z (m3 + 1) m4 (.slice p1 n cap1) M') : EntL w z m3 m4 a c l u p0 p1 n cap0 cap1 L M' :=
  have h1 := h.le3
  have h2 := h.lt34
  ⟨h.below.trans (hw.below.mono (by omega)), h1, h2, h.k3.within hw (by omega), h.s0.within hw (by omega), h.k4.within hw (by omega), hs⟩

theorem ent_impl_at {k : Int} {a c : Bool} {l u : Int} {L : List Sp} (h : entF k = (a, L, c, l, u)) (x : World) : Calls Try.prog 21 #[.int .i64 k] x fun e y => ∃ v, e = .returned (.agg #[.bool a, v, .bool c, .int .i64 l, .int .i64 u]) ∧ SpsAt true y x.heap.size y.heap.size v L ∧ Below x.heap.size x y :=
  (ent_impl k x).mono fun e y hE => by unfold EntAt at hE; rw [h] at hE; exact hE
theorem ent_spec_at {k : Int} {a c : Bool} {l u : Int} {L : List Sp} (h : entF k = (a, L, c, l, u)) (x : World) : Calls Try.prog 20 #[.int .i64 k] x fun e y => ∃ v, e = .returned (.agg #[.bool a, v, .bool c, .int .i64 l, .int .i64 u]) ∧ SpsAt true y x.heap.size y.heap.size v L ∧ Below x.heap.size x y :=
  (ent_spec k x).mono fun e y hE => by unfold EntAt at hE; rw [h] at hE; exact hE
theorem ent_len (k : Int) : (entF k).2.1.length ≤ 3 := by unfold entF; split <;> simp [noSt]

set_option maxHeartbeats 2000000 in
theorem exactStateEntry_walk (k : Int) (w : World) (hk : (Lit.int .i64 k).wf = true) :
    Calls Try.prog 4 #[.int .i64 k] w fun e y => e = .returned (.bool true) ∧ Below w.heap.size w y := by
  clear hk
  obtain ⟨a, L, c, l, u, hF0⟩ : ∃ a L c l u, entF k = (a, L, c, l, u) := ⟨_, _, _, _, _, rfl⟩
  have hn3 : L.length ≤ 3 := by have := ent_len k; rw [hF0] at this; exact this
  have HF : Hid (entF k = (a, L, c, l, u)) := hF0
  have HN : Hid (L.length ≤ 1048576) := (by omega : L.length ≤ 1048576)
  have hq : ¬ (1 + 3 * (L.length : Int)) < 0 := by omega
  have hi3 : (L.length : Int) ≤ 3 := by omega
  clear hF0 hn3
  go_enter Try.func4, Try.ntmps4
  go_wp2_with fail
  refine (ent_spec_at HF.out _).mono ?_
  rintro e w1 ⟨v0, rfl, hS0, hb1⟩
  obtain ⟨p0, cap0, rfl⟩ := hS0.shape
  have HS0 : Hid (SpsAt true w1 w.heap.size w1.heap.size (.slice p0 L.length cap0) L) := hS0
  have HB1 : Hid (Below w.heap.size w w1) := hb1
  clear hS0 hb1
  go_wp2_with fail
  generalize hX : w1.alloc (.cells #[.bool a, .slice p0 L.length cap0, .bool c, .int .i64 l, .int .i64 u] 32) = X
  have hX1 : X.heap.size = w1.heap.size + 1 := by rw [← hX]; simp
  have hXB : Below w1.heap.size w1 X := by rw [← hX]; exact (Below.refl _ _).alloc (Nat.le_refl _) _
  have K3 : Bx5 X w1.heap.size (.bool a) (.slice p0 L.length cap0) (.bool c) (.int .i64 l) (.int .i64 u) := by rw [← hX]; exact Bx5.new _ _ _ _ _ _ _
  clear hX
  refine (ent_impl_at HF.out _).mono ?_
  rintro e w3 ⟨v1, rfl, hS1, hb3⟩
  obtain ⟨p1, cap1, rfl⟩ := hS1.shape
  have hz3 : w1.heap.size < w3.heap.size := by have := hb3.size; omega
  have E3 : Hid (EntL w (w3.alloc (.cells #[.bool a, .slice p1 L.length cap1, .bool c, .int .i64 l, .int .i64 u] 32)) w1.heap.size w3.heap.size a c l u p0 p1 L.length cap0 cap1 L L) := by
    have hA : Below w3.heap.size w3 (w3.alloc (.cells #[.bool a, .slice p1 L.length cap1, .bool c, .int .i64 l, .int .i64 u] 32)) := (Below.refl _ _).alloc (Nat.le_refl _) _
    have h1 := HB1.out.size
    refine ⟨?_, h1, hz3, (K3.later hb3).later hA, ((HS0.out.later hXB).later hb3).later hA, Bx5.new _ _ _ _ _ _ _, ?_⟩
    · exact ((HB1.out.trans (hXB.mono h1)).trans (hb3.mono (by omega))).trans (hA.mono (by omega))
    · have := hS1.later hA
      rw [hX1] at this
      exact this
  obtain ⟨t3, c30, c31, c32, c33, c34, cf3⟩ := K3.later hb3
  clear hS1 hb3 HS0 HB1 hXB K3 hX1
  go_wp2_with fail
  generalize w3.alloc (.cells #[.bool a, .slice p1 L.length cap1, .bool c, .int .i64 l, .int .i64 u] 32) = Y at E3 ⊢
  clear t3 c30 c31 c32 c33 c34 cf3
  refine (eqState_same _ _ _ _ _ _ _ a _ _ L c l u E3.out.s1 E3.out.s0).mono ?_
  rintro e w5 ⟨rfl, hb5⟩
  have E5 : Hid (EntL w w5 w1.heap.size w3.heap.size a c l u p0 p1 L.length cap0 cap1 L L) := E3.out.later hb5
  obtain ⟨_, c50, c51, c52, c53, c54, _⟩ := E5.out.k4
  clear E3 hb5
  go_wp2_with fail
  refine (markState_any _ _ _ a _ (c, l, u) L 1 E5.out.s1 HN.out (by omega) (by omega)).mono ?_
  rintro e w6 ⟨rfl, hS6, hW6⟩
  have E6 : Hid (EntL w w6 w1.heap.size w3.heap.size a c l u p0 p1 L.length cap0 cap1 L (mks 1 L.length)) := (E5.out.alloc _).mark hW6 hS6
  clear c50 c51 c52 c53 c54 E5 hS6 hW6
  obtain ⟨_, c60, c61, c62, c63, c64, _⟩ := E6.out.k4
  go_wp2_with fail
  refine (heldState_same _ true _ _ a _ (c, l, u) L.length 1 E6.out.s1 HN.out (by omega) (by omega)).mono ?_
  rintro e w7 ⟨rfl, hw7⟩
  have E7 : Hid (EntL w w7 w1.heap.size w3.heap.size a c l u p0 p1 L.length cap0 cap1 L (mks 1 L.length)) := by rw [hw7]; exact E6.out.alloc _
  clear hw7 E6 c60 c61 c62 c63 c64
  go_wp2_with fail
  refine (ent_impl_at HF.out _).mono ?_
  rintro e w8 ⟨v2, rfl, hS2, hb8⟩
  obtain ⟨p2, cap2, rfl⟩ := hS2.shape
  have E8 : Hid (EntL w (w8.alloc (.cells #[.bool a, .slice p2 L.length cap2, .bool c, .int .i64 l, .int .i64 u] 32)) w1.heap.size w3.heap.size a c l u p0 p1 L.length cap0 cap1 L (mks 1 L.length)) := (E7.out.later hb8).alloc _
  have HS2 : Hid (SpsAt true (w8.alloc (.cells #[.bool a, .slice p2 L.length cap2, .bool c, .int .i64 l, .int .i64 u] 32)) w7.heap.size w8.heap.size (.slice p2 L.length cap2) L) := hS2.later ((Below.refl _ _).alloc (Nat.le_refl _) _)
  obtain ⟨t8, c80, c81, c82, c83, c84, cf8⟩ := (E7.out.later hb8).k3
  clear E7 hb8 hS2
  go_wp2_with fail
  generalize w8.alloc (.cells #[.bool a, .slice p2 L.length cap2, .bool c, .int .i64 l, .int .i64 u] 32) = Z at E8 HS2 ⊢
  clear t8 c80 c81 c82 c83 c84 cf8
  refine (eqState_same _ _ _ _ _ _ _ a _ _ L c l u HS2.out E8.out.s0).mono ?_
  rintro e w9 ⟨rfl, hb9⟩
  have E9 : Hid (EntL w w9 w1.heap.size w3.heap.size a c l u p0 p1 L.length cap0 cap1 L (mks 1 L.length)) := E8.out.later hb9
  obtain ⟨_, c90, c91, c92, c93, c94, _⟩ := E9.out.k4
  clear E8 hb9 HS2
  go_wp2_with fail
  refine (heldState_same _ true _ _ a _ (c, l, u) L.length 1 E9.out.s1 HN.out (by omega) (by omega)).mono ?_
  rintro e wf ⟨rfl, hwf⟩
  have EF : Hid (EntL w wf w1.heap.size w3.heap.size a c l u p0 p1 L.length cap0 cap1 L (mks 1 L.length)) := by rw [hwf]; exact E9.out.alloc _
  clear hwf E9 c90 c91 c92 c93 c94
  go_wp2_with fail
  go_ret
  exact ⟨rfl, EF.out.below⟩

end Go.Proofs.Ytbmjjmbimfdkoaa
