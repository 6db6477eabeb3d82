import Derived.Test.YtbjegekfghihkaaB19
import Derived.Test.YtbjegekfghihkaaB2
import Derived.Test.YtbjegekfghihkaaB20
import Derived.Test.YtbjegekfghihkaaB3
/-
  The contracts of FlowOut, the program's and the model's.
-/
namespace Go.Proofs.Ytbjegekfghihkaa
open Go.RowKit
set_option linter.unusedVariables false
set_option linter.unusedSimpArgs false

theorem SpsAt.threeF {z : Bool} {x : World} {B E : Nat} {p : Option Addr} {cap : Nat} {L : List Sp} (h : SpsAt z x B E (.slice p 3 cap) L) (hL : L.length = 3) : ∃ g o, p = some ⟨g, o, none⟩ ∧ g < x.heap.size ∧ ∀ j, j < 3 → Spn x g (o + j * 3) (L.getD j noSp) := by
  obtain ⟨p1, cap1, hv1, _, hq⟩ := h
  injection hv1 with e1
  rcases hq with h0 | ⟨g, o, hp, _, hgE, hEx, _, hj⟩
  · omega
  · rw [hL] at hj
    exact ⟨g, o, e1.trans hp, by omega, hj⟩
/-- a box of a span -/
structure Sf3 (x : World) (m : Nat) (s : Sp) : Prop where
  lt : m < x.heap.size
  c0 : x.cell? ⟨m, 0, none⟩ = some (.bool s.1)
  c1 : x.cell? ⟨m, 1, none⟩ = some (.int .i64 s.2.1)
  c2 : x.cell? ⟨m, 2, none⟩ = some (.int .i64 s.2.2)
  f0 : x.frozen? ⟨m, 0, none⟩ = false
  f1 : x.frozen? ⟨m, 1, none⟩ = false
  f2 : x.frozen? ⟨m, 2, none⟩ = false
theorem Sf3.later {x y : World} {m : Nat} {s : Sp} (h : Sf3 x m s) (hb : Below x.heap.size x y) : Sf3 y m s :=
  ⟨Nat.lt_of_lt_of_le h.lt hb.size, (hb.cell (p := ⟨m, 0, none⟩) h.lt).trans h.c0, (hb.cell (p := ⟨m, 1, none⟩) h.lt).trans h.c1, (hb.cell (p := ⟨m, 2, none⟩) h.lt).trans h.c2, (hb.frozen (p := ⟨m, 0, none⟩) h.lt).trans h.f0, (hb.frozen (p := ⟨m, 1, none⟩) h.lt).trans h.f1, (hb.frozen (p := ⟨m, 2, none⟩) h.lt).trans h.f2⟩
theorem Sf3.new (x : World) (s : Sp) (t : TypeId) : Sf3 (x.alloc (.cells #[.bool s.1, .int .i64 s.2.1, .int .i64 s.2.2] t)) x.heap.size s :=
  ⟨by simp, by simp [go_sem], by simp [go_sem], by simp [go_sem], by simp [go_sem], by simp [go_sem], by simp [go_sem]⟩
def setS (x : World) (m : Nat) (s : Sp) : World := ((x.setCell ⟨m, 0, none⟩ (.bool s.1)).setCell ⟨m, 1, none⟩ (.int .i64 s.2.1)).setCell ⟨m, 2, none⟩ (.int .i64 s.2.2)
theorem Sf3.set {x : World} {m : Nat} {s t : Sp} (h : Sf3 x m s) : Sf3 (setS x m t) m t := by
  obtain ⟨n, c0, c1, c2, f0, f1, f2⟩ := h
  unfold setS
  exact ⟨by simpa using n, by simp [go_sem, *], by simp [go_sem, *], by simp [go_sem, *], by simp [go_sem, *], by simp [go_sem, *], by simp [go_sem, *]⟩
theorem below_setS {B : Nat} {w x : World} {m : Nat} {s : Sp} (h : Below B w x) (hm : B ≤ m) : Below B w (setS x m s) :=
  ((h.setCell (p := ⟨m, 0, none⟩) hm _).setCell (p := ⟨m, 1, none⟩) hm _).setCell (p := ⟨m, 2, none⟩) hm _
/-- what an instruction gives back -/
def givesF (c : List I4) (at_ : Nat) (L : List Sp) : Sp := if at_ = c.length then (true, 0, 0) else if (c.getD at_ i0).1 = 9 then L.getD (c.getD at_ i0).2.1.toNat noSp else noSp
def outFlow (P : List (List I4)) (k at_ : Int) (a : Bool) (L : List Sp) (c : Sp) : Sp := if comesF P k at_ a L c = true then givesF (P.getD k.toNat []) at_.toNat L else noSp

attribute [local go_sem] ta_set_back ta_move_back ta_ask_back ta_do_back ta_go_back ta_less_back ta_same_back ta_call_back ta_back_back ta_hold_back ta_put_back ta_get_back
theorem ta_nil_back (w : World) : Sem.run Try.prog (Instr.typeAssert .nilIface 74 144 true) w = .ok (.tuple #[.agg #[.int .i64 0], .bool false]) w := by kernel_rfl
attribute [local go_sem] ta_nil_back

/-- what an instruction behind its interface gives back -/
def outIns (I : I4) (L : List Sp) : Sp := if I.1 = 9 then L.getD I.2.1.toNat noSp else noSp

theorem givesF_end (c : List I4) (L : List Sp) : givesF c c.length L = (true, 0, 0) := by simp [givesF]
theorem givesF_ins (c : List I4) (L : List Sp) (n : Nat) (h : n < c.length) : givesF c n L = outIns (c.getD n i0) L := by
  have : ¬ n = c.length := by omega
  simp only [givesF, this, if_false, outIns]
theorem insOkF_kind {i : I4} {q p : Int} (h : insOkF i q p = true) : 1 ≤ i.1 ∧ i.1 ≤ 12 ∧ (i.1 = 9 → 0 ≤ i.2.1 ∧ i.2.1 ≤ 2) := by
  obtain ⟨K, a, b, c⟩ := i
  by_cases hK : 1 ≤ K ∧ K ≤ 12
  · refine ⟨hK.1, hK.2, fun h9 => ?_⟩
    simp only at h9
    subst h9
    simp [insOkF, inI] at h
    exact h.1.1
  · exfalso
    have hr : insOkF (K, a, b, c) q p = false := by
      unfold insOkF; simp only; repeat' split
      all_goals first | rfl | omega
    rw [hr] at h
    cases h
/-- where one comes by: the place, the state -/
theorem comesF_at {P : List (List I4)} {k at_ : Int} {a : Bool} {L : List Sp} {c : Sp} (h : comesF P k at_ a L c = true) : ∃ n m : Nat, k = n ∧ at_ = m ∧ n < P.length ∧ m ≤ (P.getD n []).length ∧ progOkF P = true ∧ a = true ∧ stOk true L c = true ∧ L.length = 3 := by
  simp only [comesF, Bool.and_eq_true] at h
  obtain ⟨⟨⟨h1, h2⟩, h3⟩, h4⟩ := h
  obtain ⟨n, rfl, hn, hok⟩ := hasPF_at h1
  simp only [placeF, inI, decide_eq_true_eq, Int.toNat_natCast] at h2
  subst h4
  refine ⟨n, at_.toNat, rfl, by omega, hn, by omega, hok, rfl, h3, ?_⟩
  simp [stOk] at h3
  exact h3.1.1
end Go.Proofs.Ytbjegekfghihkaa

/-
  The contracts of SpanIn and havePairs, the program's and the model's.
-/
namespace Go.Proofs.Ytbjegekfghihkaa
open Go.RowKit
set_option linter.unusedVariables false

set_option maxHeartbeats 600000 in
theorem both_impl (a : Bool) (al ah : Int) (b : Bool) (bl bh : Int) (w : World) : Calls Try.prog 101 #[.agg #[.bool a, .int .i64 al, .int .i64 ah], .agg #[.bool b, .int .i64 bl, .int .i64 bh]] w fun e w' => e = .returned (.bool (bothF a al ah b bl bh)) ∧ Below w.heap.size w w' := by
  unfold bothF
  cases ho1 : okF a al ah
  · go_enter Try.func101, Try.ntmps101
    go_wp2_with fail
    refine (ok_impl _ _ _ _ ).mono ?_
    rintro e w1 ⟨rfl, hb1⟩
    have hz1 : w.heap.size + 2 ≤ w1.heap.size := by have := hb1.size; first | omega | (simp at this; omega)
    obtain ⟨p1x0, q1x0, r1x0, f1x0, g1x0, h1x0⟩ := cell3 hb1 (w.heap.size) (by go_size)
    obtain ⟨p1x1, q1x1, r1x1, f1x1, g1x1, h1x1⟩ := cell3 hb1 (w.heap.size + 1) (by go_size)
    simp only [ho1]
    go_wp2
    go_ret
    exact ⟨ret_bool (by simp), (((Below.refl _ _).alloc (Nat.le_refl _) _).alloc (by go_size) _).trans (hb1.mono (by go_size))⟩
  · cases ho2 : okF b bl bh
    · go_enter Try.func101, Try.ntmps101
      go_wp2_with fail
      refine (ok_impl _ _ _ _ ).mono ?_
      rintro e w1 ⟨rfl, hb1⟩
      have hz1 : w.heap.size + 2 ≤ w1.heap.size := by have := hb1.size; first | omega | (simp at this; omega)
      obtain ⟨p1x0, q1x0, r1x0, f1x0, g1x0, h1x0⟩ := cell3 hb1 (w.heap.size) (by go_size)
      obtain ⟨p1x1, q1x1, r1x1, f1x1, g1x1, h1x1⟩ := cell3 hb1 (w.heap.size + 1) (by go_size)
      simp only [ho1]
      go_wp2_with fail
      refine (ok_impl _ _ _ _ ).mono ?_
      rintro e w2 ⟨rfl, hb2⟩
      have hz2 : w.heap.size + 2 ≤ w2.heap.size := by have := hb2.size; first | omega | (simp at this; omega)
      obtain ⟨p2x0, q2x0, r2x0, f2x0, g2x0, h2x0⟩ := cell3 hb2 (w.heap.size) (by go_size)
      obtain ⟨p2x1, q2x1, r2x1, f2x1, g2x1, h2x1⟩ := cell3 hb2 (w.heap.size + 1) (by go_size)
      simp only [ho2]
      go_wp2
      go_ret
      exact ⟨ret_bool (by simp), ((((Below.refl _ _).alloc (Nat.le_refl _) _).alloc (by go_size) _).trans (hb1.mono (by go_size))).trans (hb2.mono (by go_size))⟩
    · cases a
      · go_enter Try.func101, Try.ntmps101
        go_wp2_with fail
        refine (ok_impl _ _ _ _ ).mono ?_
        rintro e w1 ⟨rfl, hb1⟩
        have hz1 : w.heap.size + 2 ≤ w1.heap.size := by have := hb1.size; first | omega | (simp at this; omega)
        obtain ⟨p1x0, q1x0, r1x0, f1x0, g1x0, h1x0⟩ := cell3 hb1 (w.heap.size) (by go_size)
        obtain ⟨p1x1, q1x1, r1x1, f1x1, g1x1, h1x1⟩ := cell3 hb1 (w.heap.size + 1) (by go_size)
        simp only [ho1]
        go_wp2_with fail
        refine (ok_impl _ _ _ _ ).mono ?_
        rintro e w2 ⟨rfl, hb2⟩
        have hz2 : w.heap.size + 2 ≤ w2.heap.size := by have := hb2.size; first | omega | (simp at this; omega)
        obtain ⟨p2x0, q2x0, r2x0, f2x0, g2x0, h2x0⟩ := cell3 hb2 (w.heap.size) (by go_size)
        obtain ⟨p2x1, q2x1, r2x1, f2x1, g2x1, h2x1⟩ := cell3 hb2 (w.heap.size + 1) (by go_size)
        simp only [ho2]
        go_wp2
        go_ret
        exact ⟨ret_bool (by simp), ((((Below.refl _ _).alloc (Nat.le_refl _) _).alloc (by go_size) _).trans (hb1.mono (by go_size))).trans (hb2.mono (by go_size))⟩
      · go_enter Try.func101, Try.ntmps101
        go_wp2_with fail
        refine (ok_impl _ _ _ _ ).mono ?_
        rintro e w1 ⟨rfl, hb1⟩
        have hz1 : w.heap.size + 2 ≤ w1.heap.size := by have := hb1.size; first | omega | (simp at this; omega)
        obtain ⟨p1x0, q1x0, r1x0, f1x0, g1x0, h1x0⟩ := cell3 hb1 (w.heap.size) (by go_size)
        obtain ⟨p1x1, q1x1, r1x1, f1x1, g1x1, h1x1⟩ := cell3 hb1 (w.heap.size + 1) (by go_size)
        simp only [ho1]
        go_wp2_with fail
        refine (ok_impl _ _ _ _ ).mono ?_
        rintro e w2 ⟨rfl, hb2⟩
        have hz2 : w.heap.size + 2 ≤ w2.heap.size := by have := hb2.size; first | omega | (simp at this; omega)
        obtain ⟨p2x0, q2x0, r2x0, f2x0, g2x0, h2x0⟩ := cell3 hb2 (w.heap.size) (by go_size)
        obtain ⟨p2x1, q2x1, r2x1, f2x1, g2x1, h2x1⟩ := cell3 hb2 (w.heap.size + 1) (by go_size)
        simp only [ho2]
        go_wp2
        go_ret
        exact ⟨ret_bool (by simp), ((((Below.refl _ _).alloc (Nat.le_refl _) _).alloc (by go_size) _).trans (hb1.mono (by go_size))).trans (hb2.mono (by go_size))⟩

end Go.Proofs.Ytbjegekfghihkaa
