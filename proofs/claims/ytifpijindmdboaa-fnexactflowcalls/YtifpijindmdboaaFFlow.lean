/-
  The contracts of FlowOut, the program's and the model's.
-/
import Derived.Test.YtifpijindmdboaaFHas
import Derived.Test.YtifpijindmdboaaStr
import Derived.Test.YtifpijindmdboaaInvQ
namespace Go.Proofs.Ytifpijindmdboaa
open Go.RowKit
set_option linter.unusedVariables false
set_option linter.unusedSimpArgs false

theorem SpsAt.threeF {z : Bool} {x : World} {B E : Nat} {p : Option Addr} {cap : Nat} {L : List Sp} (h : SpsAt z x B E (.slice p 3 cap) L) (hL : L.length = 3) : ∃ g o, p = some ⟨g, o, none⟩ ∧ g < x.heap.size ∧ ∀ j, j < 3 → Spn x g (o + j * 3) (L.getD j noSp) := by
  obtain ⟨p1, cap1, hv1, _, hq⟩ := h
  injection hv1 with e1
  rcases hq with h0 | ⟨g, o, hp, _, hgE, hEx, _, hj⟩
  · omega
  · rw [hL] at hj
    exact ⟨g, o, e1.trans hp, by omega, hj⟩
/-- a box of a span -/
structure Sf3 (x : World) (m : Nat) (s : Sp) : Prop where
  lt : m < x.heap.size
  c0 : x.cell? ⟨m, 0, none⟩ = some (.bool s.1)
  c1 : x.cell? ⟨m, 1, none⟩ = some (.int .i64 s.2.1)
  c2 : x.cell? ⟨m, 2, none⟩ = some (.int .i64 s.2.2)
  f0 : x.frozen? ⟨m, 0, none⟩ = false
  f1 : x.frozen? ⟨m, 1, none⟩ = false
  f2 : x.frozen? ⟨m, 2, none⟩ = false
theorem Sf3.later {x y : World} {m : Nat} {s : Sp} (h : Sf3 x m s) (hb : Below x.heap.size x y) : Sf3 y m s :=
  ⟨Nat.lt_of_lt_of_le h.lt hb.size, (hb.cell (p := ⟨m, 0, none⟩) h.lt).trans h.c0, (hb.cell (p := ⟨m, 1, none⟩) h.lt).trans h.c1, (hb.cell (p := ⟨m, 2, none⟩) h.lt).trans h.c2, (hb.frozen (p := ⟨m, 0, none⟩) h.lt).trans h.f0, (hb.frozen (p := ⟨m, 1, none⟩) h.lt).trans h.f1, (hb.frozen (p := ⟨m, 2, none⟩) h.lt).trans h.f2⟩
theorem Sf3.new (x : World) (s : Sp) (t : TypeId) : Sf3 (x.alloc (.cells #[.bool s.1, .int .i64 s.2.1, .int .i64 s.2.2] t)) x.heap.size s :=
  ⟨by simp, by simp [go_sem], by simp [go_sem], by simp [go_sem], by simp [go_sem], by simp [go_sem], by simp [go_sem]⟩
def setS (x : World) (m : Nat) (s : Sp) : World := ((x.setCell ⟨m, 0, none⟩ (.bool s.1)).setCell ⟨m, 1, none⟩ (.int .i64 s.2.1)).setCell ⟨m, 2, none⟩ (.int .i64 s.2.2)
theorem Sf3.set {x : World} {m : Nat} {s t : Sp} (h : Sf3 x m s) : Sf3 (setS x m t) m t := by
  obtain ⟨n, c0, c1, c2, f0, f1, f2⟩ := h
  unfold setS
  exact ⟨by simpa using n, by simp [go_sem, *], by simp [go_sem, *], by simp [go_sem, *], by simp [go_sem, *], by simp [go_sem, *], by simp [go_sem, *]⟩
theorem below_setS {B : Nat} {w x : World} {m : Nat} {s : Sp} (h : Below B w x) (hm : B ≤ m) : Below B w (setS x m s) :=
  ((h.setCell (p := ⟨m, 0, none⟩) hm _).setCell (p := ⟨m, 1, none⟩) hm _).setCell (p := ⟨m, 2, none⟩) hm _
/-- what an instruction gives back -/
def givesF (c : List I4) (at_ : Nat) (L : List Sp) : Sp := if at_ = c.length then (true, 0, 0) else if (c.getD at_ i0).1 = 9 then L.getD (c.getD at_ i0).2.1.toNat noSp else noSp
def outFlow (P : List (List I4)) (k at_ : Int) (a : Bool) (L : List Sp) (c : Sp) : Sp := if comesF P k at_ a L c = true then givesF (P.getD k.toNat []) at_.toNat L else noSp

attribute [local go_sem] ta_set_back ta_move_back ta_ask_back ta_do_back ta_go_back ta_less_back ta_same_back ta_call_back ta_back_back ta_hold_back ta_put_back ta_get_back
theorem ta_nil_back (w : World) : Sem.run Try.prog (Instr.typeAssert .nilIface 83 122 true) w = .ok (.tuple #[.agg #[.int .i64 0], .bool false]) w := by kernel_rfl
attribute [local go_sem] ta_nil_back

/-- what an instruction behind its interface gives back -/
def outIns (I : I4) (L : List Sp) : Sp := if I.1 = 9 then L.getD I.2.1.toNat noSp else noSp

set_option maxHeartbeats 2000000 in
theorem outFrom_nil (x : World) (a : Bool) (s : Value) (c : Bool) (l u : Int) :
    Calls Try.prog 49 #[.nilIface, .agg #[.bool a, s, .bool c, .int .i64 l, .int .i64 u]] x fun e y => e = .returned (aggS (true, 0, 0)) ∧ Below x.heap.size x y := by
  go_enter Try.func49, Try.ntmps49
  go_wp2_with fail
  generalize hX : (x.alloc (.cells #[.bool a, s, .bool c, .int .i64 l, .int .i64 u] 36)).alloc (.cells #[.bool false, .int .i64 0, .int .i64 0] 30) = X
  have hB0 : Below x.heap.size x X := by rw [← hX]; go_grown
  have hS0 : Sf3 X (x.heap.size + 1) noSp := by rw [← hX]; exact ⟨by simp, by simp [go_sem, noSp], by simp [go_sem, noSp], by simp [go_sem, noSp], by simp [go_sem], by simp [go_sem], by simp [go_sem]⟩
  clear hX
  refine (of_impl 0 _).mono ?_
  rintro e y ⟨hs, hb⟩
  obtain ⟨a', l', u', hx, rfl⟩ := hs.out
  have he : ((true, 0, 0) : Sp) = (a', l', u') := by rw [← hx.out]; rfl
  injection he with e1 e2
  injection e2 with e2 e3
  subst e1 e2 e3
  have hBy := hB0.trans (hb.mono hB0.size)
  obtain ⟨n0, c0, c1, c2, f0, f1, f2⟩ := hS0.later hb
  clear hb hB0 hS0 hx hs
  go_wp2_with fail
  refine bodyPost_ret (v := .agg #[.bool true, .int .i64 0, .int .i64 0]) (by simp [results, Try.results49, go_sem, c0, c1, c2]) rfl ⟨rfl, ?_⟩
  exact ((hBy.setCell (by simp) _).setCell (by simp) _).setCell (by simp) _

set_option maxHeartbeats 4000000 in
theorem outFrom_ins (x : World) (I : I4) (hI1 : 1 ≤ I.1) (hI2 : I.1 ≤ 12) (hA : I.1 = 9 → 0 ≤ I.2.1 ∧ I.2.1 ≤ 2) (z : Bool) (C E : Nat) (a : Bool) (s : Value) (L : List Sp) (c : Bool) (l u : Int) (hs : SpsAt z x C E s L) (hL : L.length = 3) :
    Calls Try.prog 49 #[ifcF I, .agg #[.bool a, s, .bool c, .int .i64 l, .int .i64 u]] x fun e y => e = .returned (aggS (outIns I L)) ∧ Below x.heap.size x y := by
  obtain ⟨K, A, B', C'⟩ := I
  simp only at hI1 hI2 hA ⊢
  by_cases h9 : K = 9
  · subst h9
    obtain ⟨hA0, hA2⟩ := hA rfl
    obtain ⟨n, rfl⟩ : ∃ n : Nat, A = n := ⟨A.toNat, by omega⟩
    have hn : n < 3 := by omega
    have hni : (n : Int) < 3 := by omega
    obtain ⟨p, cap, rfl⟩ := hs.shape
    rw [hL] at hs ⊢
    obtain ⟨g, o, rfl, hg, hq⟩ := hs.threeF hL
    have hsp := hq n hn
    have hout : outIns (9, (n : Int), B', C') L = L.getD n noSp := by simp [outIns]
    rw [hout]
    generalize L.getD n noSp = S at hsp ⊢
    obtain ⟨q0, q1, q2⟩ := hsp
    have hg1 : g < x.heap.size + 1 := by omega
    have hg2 : g < x.heap.size + 1 + 1 := by omega
    clear hq hs hL hI1 hI2 hA hA0 hA2 hout
    simp only [ifcF]
    go_enter Try.func49, Try.ntmps49
    go_wp2_with fail
    go_returns
    exact ⟨rfl, by go_grown⟩
  · have ho : outIns (K, A, B', C') L = noSp := by simp [outIns, h9]
    rw [ho]
    obtain rfl | rfl | rfl | rfl | rfl | rfl | rfl | rfl | rfl | rfl | rfl : K = 1 ∨ K = 2 ∨ K = 3 ∨ K = 4 ∨ K = 5 ∨ K = 6 ∨ K = 7 ∨ K = 8 ∨ K = 10 ∨ K = 11 ∨ K = 12 := by omega
    all_goals
      clear hI1 hI2 hA ho h9
      simp only [ifcF]
      go_enter Try.func49, Try.ntmps49
      go_wp2_with fail
      go_returns
      exact ⟨rfl, by go_grown⟩

theorem givesF_end (c : List I4) (L : List Sp) : givesF c c.length L = (true, 0, 0) := by simp [givesF]
theorem givesF_ins (c : List I4) (L : List Sp) (n : Nat) (h : n < c.length) : givesF c n L = outIns (c.getD n i0) L := by
  have : ¬ n = c.length := by omega
  simp only [givesF, this, if_false, outIns]
theorem insOkF_kind {i : I4} {q p : Int} (h : insOkF i q p = true) : 1 ≤ i.1 ∧ i.1 ≤ 12 ∧ (i.1 = 9 → 0 ≤ i.2.1 ∧ i.2.1 ≤ 2) := by
  obtain ⟨K, a, b, c⟩ := i
  by_cases hK : 1 ≤ K ∧ K ≤ 12
  · refine ⟨hK.1, hK.2, fun h9 => ?_⟩
    simp only at h9
    subst h9
    simp [insOkF, inI] at h
    exact h.1.1
  · exfalso
    have hr : insOkF (K, a, b, c) q p = false := by
      unfold insOkF; simp only; repeat' split
      all_goals first | rfl | omega
    rw [hr] at h
    cases h
/-- where one comes by: the place, the state -/
theorem comesF_at {P : List (List I4)} {k at_ : Int} {a : Bool} {L : List Sp} {c : Sp} (h : comesF P k at_ a L c = true) : ∃ n m : Nat, k = n ∧ at_ = m ∧ n < P.length ∧ m ≤ (P.getD n []).length ∧ progOkF P = true ∧ a = true ∧ stOk true L c = true ∧ L.length = 3 := by
  simp only [comesF, Bool.and_eq_true] at h
  obtain ⟨⟨⟨h1, h2⟩, h3⟩, h4⟩ := h
  obtain ⟨n, rfl, hn, hok⟩ := hasPF_at h1
  simp only [placeF, inI, decide_eq_true_eq, Int.toNat_natCast] at h2
  subst h4
  refine ⟨n, at_.toNat, rfl, by omega, hn, by omega, hok, rfl, h3, ?_⟩
  simp [stOk] at h3
  exact h3.1.1
set_option maxHeartbeats 4000000 in
/-- outFrom of the instruction at a place -/
theorem outFrom_any (x : World) (P : List (List I4)) (n m : Nat) (hn : n < P.length) (hm : m ≤ (P.getD n []).length) (hok : progOkF P = true) (z : Bool) (C E : Nat) (a : Bool) (s : Value) (L : List Sp) (c : Bool) (l u : Int) (hs : SpsAt z x C E s L) (hL : L.length = 3) :
    Calls Try.prog 49 #[insF (P.getD n []) m, .agg #[.bool a, s, .bool c, .int .i64 l, .int .i64 u]] x fun e y => e = .returned (aggS (givesF (P.getD n []) m L)) ∧ Below x.heap.size x y := by
  by_cases he : m = (P.getD n []).length
  · rw [show insF (P.getD n []) m = .nilIface by simp only [insF, he, if_true], show givesF (P.getD n []) m L = (true, 0, 0) by rw [he]; exact givesF_end _ _]
    exact outFrom_nil x a s c l u
  · have hlt : m < (P.getD n []).length := by omega
    have hi := insOkF_kind ((progOkF_code hok hn).2 m hlt)
    rw [show insF (P.getD n []) m = ifcF ((P.getD n []).getD m i0) by simp only [insF, he, if_false], givesF_ins _ _ _ hlt]
    exact outFrom_ins x _ hi.1 hi.2.1 hi.2.2 z C E a s L c l u hs hL

end Go.Proofs.Ytifpijindmdboaa
