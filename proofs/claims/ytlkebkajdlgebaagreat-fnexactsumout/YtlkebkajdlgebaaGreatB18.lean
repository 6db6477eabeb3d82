import Derived.Test.YtlkebkajdlgebaaGreatB4
import Derived.Test.YtlkebkajdlgebaaGreatB17
import Derived.Test.YtlkebkajdlgebaaGreatB16
import Derived.Test.YtlkebkajdlgebaaGreatB13
/-
  Sums in memory: what a row, a slice of rows, a sum and a slice of sums read as (begun in round 7: for exact SumOk, SumsOk, SumOut and all that takes sums).
-/
namespace Go.Proofs.YtlkebkajdlgebaaGreat
open Go.RowKit
set_option linter.unusedVariables false
set_option linter.unusedSimpArgs false

/-- a row: what it gives, its sites' numbers, its calls' numbers -/
structure Rw where
  o : Sp
  ns : Nat
  S : Nat → Int
  nc : Nat
  C : Nat → Int
def rw0 : Rw := ⟨noSp, 0, fun _ => 0, 0, fun _ => 0⟩
/-- a sum: its procedure, its rows -/
structure Sm where
  p : Int
  R : List Rw
def sm0 : Sm := ⟨0, []⟩
/-- a row of structures of m numbers that stands somewhere -/
def IRowW (m : Nat) (x : World) (u : Value) (n : Nat) (N : Nat → Int) : Prop := IRow m false x 0 x.heap.size u n N
theorem IRowW.later {m : Nat} {x y : World} {u : Value} {n : Nat} {N : Nat → Int} (h : IRowW m x u n N) (hb : Below x.heap.size x y) : IRowW m y u n N :=
  IRow.wide (IRow.later h hb) (Nat.le_refl _) hb.size (Nat.le_refl _)
theorem IRow.any {m : Nat} {z : Bool} {x : World} {B E : Nat} {u : Value} {n : Nat} {N : Nat → Int} (h : IRow m z x B E u n N) : IRowW m x u n N := by
  obtain ⟨p, cap, hv, hm, hq⟩ := h
  refine ⟨p, cap, hv, hm, hq.imp id ?_⟩
  rintro ⟨g, o, hp, hB, hg, hE, hf, hj⟩
  exact ⟨g, o, hp, Nat.zero_le _, by omega, Nat.le_refl _, fun h => (by cases h), hj⟩
theorem IRowW.shape {m : Nat} {x : World} {u : Value} {n : Nat} {N : Nat → Int} (h : IRowW m x u n N) : ∃ p cap, u = .slice p n cap := IRow.shape h
theorem IRowW.len {m : Nat} {x : World} {u : Value} {n : Nat} {N : Nat → Int} (h : IRowW m x u n N) : n ≤ maxLen := by obtain ⟨_, _, _, h, _⟩ := h; exact h
/-- the five cells of a row -/
structure RwC (x : World) (g o : Nat) (r : Rw) : Prop where
  c0 : x.cell? ⟨g, o, none⟩ = some (.bool r.o.1)
  c1 : x.cell? ⟨g, o + 1, none⟩ = some (.int .i64 r.o.2.1)
  c2 : x.cell? ⟨g, o + 2, none⟩ = some (.int .i64 r.o.2.2)
  c3 : ∃ u, x.cell? ⟨g, o + 3, none⟩ = some u ∧ IRowW 3 x u r.ns r.S
  c4 : ∃ u, x.cell? ⟨g, o + 4, none⟩ = some u ∧ IRowW 2 x u r.nc r.C
theorem RwC.later {x y : World} {g o : Nat} {r : Rw} (h : RwC x g o r) (hb : Below x.heap.size x y) (hg : g < x.heap.size) : RwC y g o r := by
  obtain ⟨c0, c1, c2, ⟨u3, c3, i3⟩, ⟨u4, c4, i4⟩⟩ := h
  exact ⟨(hb.cell (p := ⟨g, _, none⟩) hg).trans c0, (hb.cell (p := ⟨g, _, none⟩) hg).trans c1, (hb.cell (p := ⟨g, _, none⟩) hg).trans c2, ⟨u3, (hb.cell (p := ⟨g, _, none⟩) hg).trans c3, i3.later hb⟩, ⟨u4, (hb.cell (p := ⟨g, _, none⟩) hg).trans c4, i4.later hb⟩⟩
/-- the slice value v reads as the rows R -/
def RowsAt (x : World) (v : Value) (R : List Rw) : Prop :=
  ∃ p cap, v = .slice p R.length cap ∧ R.length ≤ maxLen ∧ (R.length = 0 ∨ ∃ g o, p = some ⟨g, o, none⟩ ∧ g < x.heap.size ∧ ∀ j, j < R.length → RwC x g (o + j * 5) (R.getD j rw0))
theorem RowsAt.later {x y : World} {v : Value} {R : List Rw} (h : RowsAt x v R) (hb : Below x.heap.size x y) : RowsAt y v R := by
  obtain ⟨p, cap, hv, hm, hq⟩ := h
  refine ⟨p, cap, hv, hm, hq.imp id ?_⟩
  rintro ⟨g, o, hp, hg, hj⟩
  exact ⟨g, o, hp, Nat.lt_of_lt_of_le hg hb.size, fun j h => (hj j h).later hb hg⟩
theorem RowsAt.shape {x : World} {v : Value} {R : List Rw} (h : RowsAt x v R) : ∃ p cap, v = .slice p R.length cap ∧ R.length ≤ maxLen := by
  obtain ⟨p, cap, hv, hm, _⟩ := h
  exact ⟨p, cap, hv, hm⟩
theorem RowsAt.nil {x : World} {p : Option Addr} {cap : Nat} : RowsAt x (.slice p 0 cap) [] := ⟨p, cap, rfl, Nat.zero_le _, .inl rfl⟩
theorem RowsAt.row {x : World} {p : Option Addr} {cap : Nat} {R : List Rw} (h : RowsAt x (.slice p R.length cap) R) {j : Nat} (hj : j < R.length) : ∃ g o, p = some ⟨g, o, none⟩ ∧ g < x.heap.size ∧ RwC x g (o + j * 5) (R.getD j rw0) := by
  obtain ⟨p', cap', hv, _, hq⟩ := h
  injection hv with e1
  subst e1
  rcases hq with h0 | ⟨g, o, hp, hg, hx⟩
  · omega
  · exact ⟨g, o, hp, hg, hx j hj⟩
/-- the two cells of a sum -/
structure SmC (x : World) (g o : Nat) (s : Sm) : Prop where
  c0 : x.cell? ⟨g, o, none⟩ = some (.int .i64 s.p)
  c1 : ∃ u, x.cell? ⟨g, o + 1, none⟩ = some u ∧ RowsAt x u s.R
theorem SmC.later {x y : World} {g o : Nat} {s : Sm} (h : SmC x g o s) (hb : Below x.heap.size x y) (hg : g < x.heap.size) : SmC y g o s := by
  obtain ⟨c0, ⟨u1, c1, i1⟩⟩ := h
  exact ⟨(hb.cell (p := ⟨g, _, none⟩) hg).trans c0, ⟨u1, (hb.cell (p := ⟨g, _, none⟩) hg).trans c1, i1.later hb⟩⟩
/-- the slice value v reads as the sums M -/
def SmsAt (x : World) (v : Value) (M : List Sm) : Prop :=
  ∃ p cap, v = .slice p M.length cap ∧ M.length ≤ maxLen ∧ (M.length = 0 ∨ ∃ g o, p = some ⟨g, o, none⟩ ∧ g < x.heap.size ∧ ∀ j, j < M.length → SmC x g (o + j * 2) (M.getD j sm0))
theorem SmsAt.later {x y : World} {v : Value} {M : List Sm} (h : SmsAt x v M) (hb : Below x.heap.size x y) : SmsAt y v M := by
  obtain ⟨p, cap, hv, hm, hq⟩ := h
  refine ⟨p, cap, hv, hm, hq.imp id ?_⟩
  rintro ⟨g, o, hp, hg, hj⟩
  exact ⟨g, o, hp, Nat.lt_of_lt_of_le hg hb.size, fun j h => (hj j h).later hb hg⟩
theorem SmsAt.shape {x : World} {v : Value} {M : List Sm} (h : SmsAt x v M) : ∃ p cap, v = .slice p M.length cap ∧ M.length ≤ maxLen := by
  obtain ⟨p, cap, hv, hm, _⟩ := h
  exact ⟨p, cap, hv, hm⟩
theorem SmsAt.nil {x : World} {p : Option Addr} {cap : Nat} : SmsAt x (.slice p 0 cap) [] := ⟨p, cap, rfl, Nat.zero_le _, .inl rfl⟩
theorem SmsAt.sum {x : World} {p : Option Addr} {cap : Nat} {M : List Sm} (h : SmsAt x (.slice p M.length cap) M) {j : Nat} (hj : j < M.length) : ∃ g o, p = some ⟨g, o, none⟩ ∧ g < x.heap.size ∧ SmC x g (o + j * 2) (M.getD j sm0) := by
  obtain ⟨p', cap', hv, _, hq⟩ := h
  injection hv with e1
  subst e1
  rcases hq with h0 | ⟨g, o, hp, hg, hx⟩
  · omega
  · exact ⟨g, o, hp, hg, hx j hj⟩
/-- how great a row, rows, a sum may be -/
def rwSz (r : Rw) : Prop := r.ns ≤ 1048576 ∧ r.nc ≤ 1048576
def rowsSz (R : List Rw) : Prop := R.length ≤ 1048576 ∧ ∀ j, j < R.length → rwSz (R.getD j rw0)
def smsSz (M : List Sm) : Prop := M.length ≤ 1048576 ∧ ∀ j, j < M.length → rowsSz (M.getD j sm0).R

end Go.Proofs.YtlkebkajdlgebaaGreat

/-
  Comparing of numbers: the contracts of cmp.Compare[int], of sumOrder, l12SiteLess, l12CallLess.
-/
namespace Go.Proofs.YtlkebkajdlgebaaGreat
open Go.RowKit
set_option linter.unusedVariables false
set_option linter.unusedSimpArgs false

/-- less: -1, more: 1, the same: 0 -/
def cmpF (a b : Int) : Int := if a < b then -1 else if b < a then 1 else 0
theorem isNaN_any (n : Int) (x : World) : Calls Tryz.prog 88 #[.int .i64 n] x fun e y => e = .returned (.bool false) ∧ Below x.heap.size x y := by
  go_enter Tryz.func88, Tryz.ntmps88
  go_wp2_with fail
  go_ret
  exact ⟨ret_bool (by simp), by go_grown⟩
set_option maxHeartbeats 1000000 in
theorem compare_any (a b : Int) (x : World) : Calls Tryz.prog 63 #[.int .i64 a, .int .i64 b] x fun e y => e = .returned (.int .i64 (cmpF a b)) ∧ Below x.heap.size x y := by
  go_enter Tryz.func63, Tryz.ntmps63
  go_wp2_with fail
  refine (isNaN_any _ _).mono ?_
  rintro e y ⟨rfl, hb⟩
  have HY : Hid (Below x.heap.size x y) := hb
  go_wp2_with fail
  refine (isNaN_any _ _).mono ?_
  rintro e z ⟨rfl, hz⟩
  have HZ : Hid (Below x.heap.size x z) := HY.out.trans (hz.mono HY.out.size)
  clear hb hz HY
  by_cases h1 : a < b
  · have e1 : decide (a < b) = true := decide_eq_true h1
    have E : Hid (cmpF a b = -1) := by show cmpF a b = -1; unfold cmpF; rw [if_pos h1]
    go_wp2_with fail
    go_ret
    exact ⟨by rw [E.out]; rfl, HZ.out⟩
  · have e1 : decide (a < b) = false := decide_eq_false h1
    by_cases h2 : a > b
    · have e2 : decide (a > b) = true := decide_eq_true h2
      have E : Hid (cmpF a b = 1) := by show cmpF a b = 1; unfold cmpF; rw [if_neg h1, if_pos h2]
      go_wp2_with fail
      go_ret
      exact ⟨by rw [E.out]; rfl, HZ.out⟩
    · have e2 : decide (a > b) = false := decide_eq_false h2
      have E : Hid (cmpF a b = 0) := by show cmpF a b = 0; unfold cmpF; rw [if_neg h1, if_neg h2]
      go_wp2_with fail
      go_ret
      exact ⟨by rw [E.out]; rfl, HZ.out⟩
set_option maxHeartbeats 1000000 in
theorem sumOrder_any (a b : Int) (u v : Value) (x : World) : Calls Tryz.prog 41 #[.agg #[.int .i64 a, u], .agg #[.int .i64 b, v]] x fun e y => e = .returned (.int .i64 (cmpF a b)) ∧ Below x.heap.size x y := by
  go_enter Tryz.func41, Tryz.ntmps41
  go_wp2_with fail
  refine (compare_any _ _ _).mono ?_
  rintro e z ⟨rfl, hz⟩
  have hz' : Below x.heap.size x z := ((((Below.refl _ _).alloc (Nat.le_refl _) _).alloc (by simp) _)).trans (hz.mono (by simp; omega))
  go_wp2_with fail
  go_ret
  exact ⟨rfl, hz'⟩

/-- sites in their order -/
def siteLtF (a b : Int × Int × Int) : Bool := if a.1 ≠ b.1 then decide (a.1 < b.1) else if a.2.1 ≠ b.2.1 then decide (a.2.1 < b.2.1) else decide (a.2.2 < b.2.2)
def callLtF (a b : Int × Int) : Bool := decide (a.1 < b.1) || (decide (a.1 = b.1) && decide (a.2 < b.2))
set_option maxHeartbeats 2000000 in
theorem siteLess_any (a b : Int × Int × Int) (x : World) : Calls Tryz.prog 51 #[.agg #[.int .i64 a.1, .int .i64 a.2.1, .int .i64 a.2.2], .agg #[.int .i64 b.1, .int .i64 b.2.1, .int .i64 b.2.2]] x fun e y => e = .returned (.bool (siteLtF a b)) ∧ Below x.heap.size x y := by
  obtain ⟨a0, a1, a2⟩ := a
  obtain ⟨b0, b1, b2⟩ := b
  dsimp only
  by_cases h0 : a0 = b0
  · subst h0
    by_cases h1 : a1 = b1
    · subst h1
      go_enter Tryz.func51, Tryz.ntmps51
      go_wp2_with fail
      go_ret
      exact ⟨ret_bool (by simp [siteLtF]), by go_grown⟩
    · have e1 : (a1 == b1) = false := by simpa using h1
      go_enter Tryz.func51, Tryz.ntmps51
      go_wp2_with fail
      go_ret
      exact ⟨ret_bool (by simp [siteLtF, h1]), by go_grown⟩
  · have e0 : (a0 == b0) = false := by simpa using h0
    go_enter Tryz.func51, Tryz.ntmps51
    go_wp2_with fail
    go_ret
    exact ⟨ret_bool (by simp [siteLtF, h0]), by go_grown⟩
set_option maxHeartbeats 2000000 in
theorem callLess_any (a b : Int × Int) (x : World) : Calls Tryz.prog 54 #[.agg #[.int .i64 a.1, .int .i64 a.2], .agg #[.int .i64 b.1, .int .i64 b.2]] x fun e y => e = .returned (.bool (callLtF a b)) ∧ Below x.heap.size x y := by
  obtain ⟨a0, a1⟩ := a
  obtain ⟨b0, b1⟩ := b
  dsimp only
  by_cases h0 : a0 < b0
  · have e0 : decide (a0 < b0) = true := decide_eq_true h0
    go_enter Tryz.func54, Tryz.ntmps54
    go_wp2_with fail
    go_ret
    exact ⟨ret_bool (by simp [callLtF, h0]), by go_grown⟩
  · have e0 : decide (a0 < b0) = false := decide_eq_false h0
    by_cases h1 : a0 = b0
    · subst h1
      go_enter Tryz.func54, Tryz.ntmps54
      go_wp2_with fail
      go_ret
      exact ⟨ret_bool (by simp [callLtF]), by go_grown⟩
    · have e1 : (a0 == b0) = false := by simpa using h1
      go_enter Tryz.func54, Tryz.ntmps54
      go_wp2_with fail
      go_ret
      exact ⟨ret_bool (by simp [callLtF, h0, h1]), by go_grown⟩

end Go.Proofs.YtlkebkajdlgebaaGreat

/-
  Orders of sites and calls: the contracts of cmp.Or[int] (of two numbers), siteOrder, callOrder.
-/
namespace Go.Proofs.YtlkebkajdlgebaaGreat
open Go.RowKit
set_option linter.unusedVariables false
set_option linter.unusedSimpArgs false

def orF (a b : Int) : Int := if a = 0 then b else a
set_option maxHeartbeats 1000000 in
theorem or_any (x : World) (g cap : Nat) (a b : Int) (h0 : x.cell? ⟨g, 0, none⟩ = some (.int .i64 a)) (h1 : x.cell? ⟨g, 1, none⟩ = some (.int .i64 b)) :
    Calls Tryz.prog 124 #[.slice (some ⟨g, 0, none⟩) 2 cap] x fun e y => e = .returned (.int .i64 (orF a b)) ∧ Below x.heap.size x y := by
  by_cases ha : a = 0
  · subst ha
    have E : Hid (orF 0 b = b) := by show orF 0 b = b; unfold orF; rw [if_pos rfl]
    have H0 : Hid (x.cell? ⟨g, 0, none⟩ = some (.int .i64 0)) := h0
    have H1 : Hid (x.cell? ⟨g, 1, none⟩ = some (.int .i64 b)) := h1
    clear h0 h1
    go_enter Tryz.func124, Tryz.ntmps124
    go_wp2_with fail
    go_loopw [8] (fun t y => ∃ k : Nat, k ≤ 2 ∧ t = .int .i64 k ∧ y = x ∧ Hid (k = 2 → b = 0)) (fun t _ => 2 - (intOf t).toNat)
    case atStart => exact ⟨0, by omega, rfl, rfl, fun h => by omega⟩
    case round =>
      obtain ⟨k, hk, rfl, rfl, hd⟩ := hrel
      rcases (by omega : k = 0 ∨ k = 1 ∨ k = 2) with rfl | rfl | rfl
      · have q0 := H0.out
        go_wp2_with fail
        go_roundw
        case rel => exact ⟨1, by omega, rfl, trivial, fun h => by omega⟩
        case measure => simp [intOf]
      · have q1 := H1.out
        by_cases hb : b = 0
        · subst hb
          go_wp2_with fail
          go_roundw
          case rel => exact ⟨2, by omega, rfl, trivial, by show _ → _; simp⟩
          case measure => simp [intOf]
        · have hb' : (b == 0) = false := by simpa using hb
          go_wp2_with fail
          go_ret
          exact ⟨by rw [E.out]; rfl, Below.refl _ _⟩
      · obtain rfl := hd.out rfl
        go_wp2_with fail
        go_ret
        exact ⟨by rw [E.out]; rfl, Below.refl _ _⟩
  · have ha' : (a == 0) = false := by simpa using ha
    have E : Hid (orF a b = a) := by show orF a b = a; unfold orF; rw [if_neg ha]
    go_enter Tryz.func124, Tryz.ntmps124
    go_wp2_with fail
    go_loopw [8] (fun t y => t = .int .i64 0 ∧ y = x) (fun t _ => 0)
    case atStart => exact ⟨rfl, rfl⟩
    case round =>
      obtain ⟨rfl, rfl⟩ := hrel
      go_wp2_with fail
      go_ret
      exact ⟨by rw [E.out]; rfl, Below.refl _ _⟩

/-- a row of two numbers -/
structure Two (x : World) (g : Nat) (a b : Int) : Prop where
  lt : g < x.heap.size
  c0 : x.cell? ⟨g, 0, none⟩ = some (.int .i64 a)
  c1 : x.cell? ⟨g, 1, none⟩ = some (.int .i64 b)
theorem Two.later {x y : World} {g : Nat} {a b : Int} (h : Two x g a b) (hb : Below x.heap.size x y) : Two y g a b :=
  ⟨Nat.lt_of_lt_of_le h.lt hb.size, (hb.cell (p := ⟨g, 0, none⟩) h.lt).trans h.c0, (hb.cell (p := ⟨g, 1, none⟩) h.lt).trans h.c1⟩
theorem Two.new (x : World) (a b : Int) (t : TypeId) : Two (x.alloc (.cells #[.int .i64 a, .int .i64 b] t)) x.heap.size a b := ⟨by simp, by simp [go_sem], by simp [go_sem]⟩
/-- the first two numbers of each of two boxes, m and m + 1 -/
structure Bx22 (x : World) (m : Nat) (a0 a1 b0 b1 : Int) : Prop where
  lt : m + 1 < x.heap.size
  ca0 : x.cell? ⟨m, 0, none⟩ = some (.int .i64 a0)
  ca1 : x.cell? ⟨m, 1, none⟩ = some (.int .i64 a1)
  cb0 : x.cell? ⟨m + 1, 0, none⟩ = some (.int .i64 b0)
  cb1 : x.cell? ⟨m + 1, 1, none⟩ = some (.int .i64 b1)
theorem Bx22.later {x y : World} {m : Nat} {a0 a1 b0 b1 : Int} (h : Bx22 x m a0 a1 b0 b1) (hb : Below x.heap.size x y) : Bx22 y m a0 a1 b0 b1 := by
  have hm : m < x.heap.size := by have := h.lt; omega
  exact ⟨Nat.lt_of_lt_of_le h.lt hb.size, (hb.cell (p := ⟨m, 0, none⟩) hm).trans h.ca0, (hb.cell (p := ⟨m, 1, none⟩) hm).trans h.ca1, (hb.cell (p := ⟨m + 1, 0, none⟩) h.lt).trans h.cb0, (hb.cell (p := ⟨m + 1, 1, none⟩) h.lt).trans h.cb1⟩

set_option maxRecDepth 100000 in
set_option maxHeartbeats 4000000 in
theorem siteOrder_any (a b : Int × Int × Int) (x0 : World) : Calls Tryz.prog 107 #[.agg #[.int .i64 a.1, .int .i64 a.2.1, .int .i64 a.2.2], .agg #[.int .i64 b.1, .int .i64 b.2.1, .int .i64 b.2.2]] x0 fun e y => e = .returned (.int .i64 (orF (cmpF a.1 b.1) (cmpF a.2.1 b.2.1))) ∧ Below x0.heap.size x0 y := by
  obtain ⟨a0, a1, a2⟩ := a
  obtain ⟨b0, b1, b2⟩ := b
  dsimp only
  go_enter Tryz.func107, Tryz.ntmps107
  go_wp2_with fail
  have HXB : Hid (Below x0.heap.size x0 ((x0.alloc (.cells #[.int .i64 a0, .int .i64 a1, .int .i64 a2] 94)).alloc (.cells #[.int .i64 b0, .int .i64 b1, .int .i64 b2] 94))) := ((Below.refl _ _).alloc (Nat.le_refl _) _).alloc (by simp) _
  have HL : Hid (Bx22 ((x0.alloc (.cells #[.int .i64 a0, .int .i64 a1, .int .i64 a2] 94)).alloc (.cells #[.int .i64 b0, .int .i64 b1, .int .i64 b2] 94)) x0.heap.size a0 a1 b0 b1) := by
    refine ⟨by simp, ?_, ?_, ?_, ?_⟩ <;> simp [go_sem]
  generalize (x0.alloc (.cells #[.int .i64 a0, .int .i64 a1, .int .i64 a2] 94)).alloc (.cells #[.int .i64 b0, .int .i64 b1, .int .i64 b2] 94) = X at HXB HL ⊢
  generalize hm : x0.heap.size = m at *
  refine wp_region_preds (by kernel_rfl) (by kernel_rfl) (by kernel_rfl) (by kernel_rfl) (fun j => [(fun v _ => v = .pointer (some ⟨m, 0, none⟩)), (fun v _ => v = .int .i64 a0), (fun v _ => v = .pointer (some ⟨m + 1, 0, none⟩)), (fun v _ => v = .int .i64 b0), (fun v _ => v = .int .i64 (cmpF a0 b0)), (fun v _ => v = .pointer (some ⟨m, 1, none⟩)), (fun v _ => v = .int .i64 a1), (fun v _ => v = .pointer (some ⟨m + 1, 1, none⟩)), (fun v _ => v = .int .i64 b1), (fun v _ => v = .int .i64 (cmpF a1 b1)), (fun v x => ∃ r, v = .slice (some ⟨r, 0, none⟩) 2 2 ∧ Two x r (cmpF a0 b0) (cmpF a1 b1)), (fun v _ => v = .int .i64 (orF (cmpF a0 b0) (cmpF a1 b1))), (fun v _ => v = .int .i64 (orF (cmpF a0 b0) (cmpF a1 b1)))].getD j (fun _ _ => True)) ?stable X ((Below.refl _ _).drew) ?step (fun V => ⟨List.toArray ((.agg #[.int .i64 a0, .int .i64 a1, .int .i64 a2]) :: (.agg #[.int .i64 b0, .int .i64 b1, .int .i64 b2]) :: (.pointer (some ⟨m, 0, none⟩)) :: (.pointer (some ⟨m + 1, 0, none⟩)) :: (V 12) :: (V 0) :: (V 1) :: (V 2) :: (V 3) :: (V 4) :: (V 5) :: (V 6) :: (V 7) :: (V 8) :: (V 9) :: (V 10) :: (V 11) :: []), []⟩) (fun V => by kernel_rfl) ?last
  case stable =>
    intro i v x y ht hb
    rcases i with _ | i
    · exact ht
    rcases i with _ | i
    · exact ht
    rcases i with _ | i
    · exact ht
    rcases i with _ | i
    · exact ht
    rcases i with _ | i
    · exact ht
    rcases i with _ | i
    · exact ht
    rcases i with _ | i
    · exact ht
    rcases i with _ | i
    · exact ht
    rcases i with _ | i
    · exact ht
    rcases i with _ | i
    · exact ht
    rcases i with _ | i
    · exact (Exists.elim ht fun r hr => ⟨r, hr.1, hr.2.later hb⟩)
    rcases i with _ | i
    · exact ht
    rcases i with _ | i
    · exact ht
    exact trivial
  case step =>
    intro i o ho ρ y x hBx hdep hout
    rcases i with _ | i
    · obtain rfl := Option.some.inj ho
      have o2 : ρ (.tmp 2) = .pointer (some ⟨m, 0, none⟩) := hout (.tmp 2) rfl
      have ocn : ∀ v, ρ (.const v) = v := fun v => hout (.const v) rfl
      have ofn : ∀ f, ρ (.func f) = .func (.func f) #[] #[] := fun f => hout (.func f) rfl
      clear hdep hout
      refine .inl ⟨rfl, ?_⟩
      show GivesP _ _ _ (fun v _ => v = .pointer (some ⟨m, 0, none⟩)) _
      refine GivesP.val (.pointer (some ⟨m, 0, none⟩)) rfl ?_
      go_simp
    rcases i with _ | i
    · obtain rfl := Option.some.inj ho
      have e0 : ρ (.tmp 5) = .pointer (some ⟨m, 0, none⟩) := (hdep ⟨0, .data⟩ (by simp) rfl 5 rfl).1
      have ocn : ∀ v, ρ (.const v) = v := fun v => hout (.const v) rfl
      have ofn : ∀ f, ρ (.func f) = .func (.func f) #[] #[] := fun f => hout (.func f) rfl
      clear hdep hout
      refine .inl ⟨rfl, ?_⟩
      have c0 : x.cell? ⟨m, 0, none⟩ = some (.int .i64 a0) := (HL.out.later hBx).ca0
      show GivesP _ _ _ (fun v _ => v = .int .i64 a0) _
      refine GivesP.val (.int .i64 a0) rfl ?_
      go_simp
    rcases i with _ | i
    · obtain rfl := Option.some.inj ho
      have o3 : ρ (.tmp 3) = .pointer (some ⟨m + 1, 0, none⟩) := hout (.tmp 3) rfl
      have ocn : ∀ v, ρ (.const v) = v := fun v => hout (.const v) rfl
      have ofn : ∀ f, ρ (.func f) = .func (.func f) #[] #[] := fun f => hout (.func f) rfl
      clear hdep hout
      refine .inl ⟨rfl, ?_⟩
      show GivesP _ _ _ (fun v _ => v = .pointer (some ⟨m + 1, 0, none⟩)) _
      refine GivesP.val (.pointer (some ⟨m + 1, 0, none⟩)) rfl ?_
      go_simp
    rcases i with _ | i
    · obtain rfl := Option.some.inj ho
      have e2 : ρ (.tmp 7) = .pointer (some ⟨m + 1, 0, none⟩) := (hdep ⟨2, .data⟩ (by simp) rfl 7 rfl).1
      have ocn : ∀ v, ρ (.const v) = v := fun v => hout (.const v) rfl
      have ofn : ∀ f, ρ (.func f) = .func (.func f) #[] #[] := fun f => hout (.func f) rfl
      clear hdep hout
      refine .inl ⟨rfl, ?_⟩
      have c0 : x.cell? ⟨m + 1, 0, none⟩ = some (.int .i64 b0) := (HL.out.later hBx).cb0
      show GivesP _ _ _ (fun v _ => v = .int .i64 b0) _
      refine GivesP.val (.int .i64 b0) rfl ?_
      go_simp
    rcases i with _ | i
    · obtain rfl := Option.some.inj ho
      have e1 : ρ (.tmp 6) = .int .i64 a0 := (hdep ⟨1, .data⟩ (by simp) rfl 6 rfl).1
      have e3 : ρ (.tmp 8) = .int .i64 b0 := (hdep ⟨3, .data⟩ (by simp) rfl 8 rfl).1
      have ocn : ∀ v, ρ (.const v) = v := fun v => hout (.const v) rfl
      have ofn : ∀ f, ρ (.func f) = .func (.func f) #[] #[] := fun f => hout (.func f) rfl
      clear hdep hout
      refine .inl ⟨rfl, ?_⟩
      show GivesP _ _ _ (fun v _ => v = .int .i64 (cmpF a0 b0)) _
      refine GivesP.call ((compare_any a0 b0 x).mono fun e w9 h9 => ⟨_, h9.1, rfl, h9.2⟩) ?_
      go_simp
    rcases i with _ | i
    · obtain rfl := Option.some.inj ho
      have o2 : ρ (.tmp 2) = .pointer (some ⟨m, 0, none⟩) := hout (.tmp 2) rfl
      have ocn : ∀ v, ρ (.const v) = v := fun v => hout (.const v) rfl
      have ofn : ∀ f, ρ (.func f) = .func (.func f) #[] #[] := fun f => hout (.func f) rfl
      clear hdep hout
      refine .inl ⟨rfl, ?_⟩
      show GivesP _ _ _ (fun v _ => v = .pointer (some ⟨m, 1, none⟩)) _
      refine GivesP.val (.pointer (some ⟨m, 1, none⟩)) rfl ?_
      go_simp
    rcases i with _ | i
    · obtain rfl := Option.some.inj ho
      have e5 : ρ (.tmp 10) = .pointer (some ⟨m, 1, none⟩) := (hdep ⟨5, .data⟩ (by simp) rfl 10 rfl).1
      have ocn : ∀ v, ρ (.const v) = v := fun v => hout (.const v) rfl
      have ofn : ∀ f, ρ (.func f) = .func (.func f) #[] #[] := fun f => hout (.func f) rfl
      clear hdep hout
      refine .inl ⟨rfl, ?_⟩
      have c0 : x.cell? ⟨m, 1, none⟩ = some (.int .i64 a1) := (HL.out.later hBx).ca1
      show GivesP _ _ _ (fun v _ => v = .int .i64 a1) _
      refine GivesP.val (.int .i64 a1) rfl ?_
      go_simp
    rcases i with _ | i
    · obtain rfl := Option.some.inj ho
      have o3 : ρ (.tmp 3) = .pointer (some ⟨m + 1, 0, none⟩) := hout (.tmp 3) rfl
      have ocn : ∀ v, ρ (.const v) = v := fun v => hout (.const v) rfl
      have ofn : ∀ f, ρ (.func f) = .func (.func f) #[] #[] := fun f => hout (.func f) rfl
      clear hdep hout
      refine .inl ⟨rfl, ?_⟩
      show GivesP _ _ _ (fun v _ => v = .pointer (some ⟨m + 1, 1, none⟩)) _
      refine GivesP.val (.pointer (some ⟨m + 1, 1, none⟩)) rfl ?_
      go_simp
    rcases i with _ | i
    · obtain rfl := Option.some.inj ho
      have e7 : ρ (.tmp 12) = .pointer (some ⟨m + 1, 1, none⟩) := (hdep ⟨7, .data⟩ (by simp) rfl 12 rfl).1
      have ocn : ∀ v, ρ (.const v) = v := fun v => hout (.const v) rfl
      have ofn : ∀ f, ρ (.func f) = .func (.func f) #[] #[] := fun f => hout (.func f) rfl
      clear hdep hout
      refine .inl ⟨rfl, ?_⟩
      have c0 : x.cell? ⟨m + 1, 1, none⟩ = some (.int .i64 b1) := (HL.out.later hBx).cb1
      show GivesP _ _ _ (fun v _ => v = .int .i64 b1) _
      refine GivesP.val (.int .i64 b1) rfl ?_
      go_simp
    rcases i with _ | i
    · obtain rfl := Option.some.inj ho
      have e6 : ρ (.tmp 11) = .int .i64 a1 := (hdep ⟨6, .data⟩ (by simp) rfl 11 rfl).1
      have e8 : ρ (.tmp 13) = .int .i64 b1 := (hdep ⟨8, .data⟩ (by simp) rfl 13 rfl).1
      have ocn : ∀ v, ρ (.const v) = v := fun v => hout (.const v) rfl
      have ofn : ∀ f, ρ (.func f) = .func (.func f) #[] #[] := fun f => hout (.func f) rfl
      clear hdep hout
      refine .inl ⟨rfl, ?_⟩
      show GivesP _ _ _ (fun v _ => v = .int .i64 (cmpF a1 b1)) _
      refine GivesP.call ((compare_any a1 b1 x).mono fun e w9 h9 => ⟨_, h9.1, rfl, h9.2⟩) ?_
      go_simp
    rcases i with _ | i
    · obtain rfl := Option.some.inj ho
      have e4 : ρ (.tmp 9) = .int .i64 (cmpF a0 b0) := (hdep ⟨4, .data⟩ (by simp) rfl 9 rfl).1
      have e9 : ρ (.tmp 14) = .int .i64 (cmpF a1 b1) := (hdep ⟨9, .data⟩ (by simp) rfl 14 rfl).1
      have ocn : ∀ v, ρ (.const v) = v := fun v => hout (.const v) rfl
      have ofn : ∀ f, ρ (.func f) = .func (.func f) #[] #[] := fun f => hout (.func f) rfl
      clear hdep hout
      refine .inl ⟨rfl, ?_⟩
      show GivesP _ _ _ (fun v x => ∃ r, v = .slice (some ⟨r, 0, none⟩) 2 2 ∧ Two x r (cmpF a0 b0) (cmpF a1 b1)) _
      refine GivesP.made (.slice (some ⟨x.heap.size, 0, none⟩) 2 2) (x.alloc (.cells #[.int .i64 (cmpF a0 b0), .int .i64 (cmpF a1 b1)] 3)) ((Below.refl _ _).alloc (Nat.le_refl _) _) (⟨_, rfl, Two.new x _ _ _⟩) ?_
      go_simp
    rcases i with _ | i
    · obtain rfl := Option.some.inj ho
      have t10 := (hdep ⟨10, .data⟩ (by simp) rfl 15 rfl).1
      have t10 : (fun v x => ∃ r, v = .slice (some ⟨r, 0, none⟩) 2 2 ∧ Two x r (cmpF a0 b0) (cmpF a1 b1)) (ρ (.tmp 15)) x := t10
      obtain ⟨r10, e10, k10⟩ := t10
      have ocn : ∀ v, ρ (.const v) = v := fun v => hout (.const v) rfl
      have ofn : ∀ f, ρ (.func f) = .func (.func f) #[] #[] := fun f => hout (.func f) rfl
      clear hdep hout
      refine .inl ⟨rfl, ?_⟩
      show GivesP _ _ _ (fun v _ => v = .int .i64 (orF (cmpF a0 b0) (cmpF a1 b1))) _
      refine GivesP.call ((or_any x r10 2 _ _ k10.c0 k10.c1).mono fun e w9 h9 => ⟨_, h9.1, rfl, h9.2⟩) ?_
      go_simp
    rcases i with _ | i
    · obtain rfl := Option.some.inj ho
      have e11 : ρ (.tmp 16) = .int .i64 (orF (cmpF a0 b0) (cmpF a1 b1)) := (hdep ⟨11, .data⟩ (by simp) rfl 16 rfl).1
      have ocn : ∀ v, ρ (.const v) = v := fun v => hout (.const v) rfl
      have ofn : ∀ f, ρ (.func f) = .func (.func f) #[] #[] := fun f => hout (.func f) rfl
      clear hdep hout
      refine .inl ⟨rfl, ?_⟩
      show GivesP _ _ _ (fun v _ => v = .int .i64 (orF (cmpF a0 b0) (cmpF a1 b1))) _
      refine GivesP.val (.int .i64 (orF (cmpF a0 b0) (cmpF a1 b1))) rfl ?_
      go_simp
    cases ho
  case last =>
    intro V x hBx hV
    have e12 : V 12 = .int .i64 (orF (cmpF a0 b0) (cmpF a1 b1)) := hV 12 (by simp)
    clear hV
    go_wp2_with fail
    go_ret
    exact ⟨congrArg Ending.returned e12, by rw [hm]; exact HXB.out.trans (hBx.mono (by have := HXB.out.size; omega))⟩

set_option maxRecDepth 100000 in
set_option maxHeartbeats 4000000 in
theorem callOrder_any (a b : Int × Int) (x0 : World) : Calls Tryz.prog 112 #[.agg #[.int .i64 a.1, .int .i64 a.2], .agg #[.int .i64 b.1, .int .i64 b.2]] x0 fun e y => e = .returned (.int .i64 (orF (cmpF a.1 b.1) (cmpF a.2 b.2))) ∧ Below x0.heap.size x0 y := by
  obtain ⟨a0, a1⟩ := a
  obtain ⟨b0, b1⟩ := b
  dsimp only
  go_enter Tryz.func112, Tryz.ntmps112
  go_wp2_with fail
  have HXB : Hid (Below x0.heap.size x0 ((x0.alloc (.cells #[.int .i64 a0, .int .i64 a1] 99)).alloc (.cells #[.int .i64 b0, .int .i64 b1] 99))) := ((Below.refl _ _).alloc (Nat.le_refl _) _).alloc (by simp) _
  have HL : Hid (Bx22 ((x0.alloc (.cells #[.int .i64 a0, .int .i64 a1] 99)).alloc (.cells #[.int .i64 b0, .int .i64 b1] 99)) x0.heap.size a0 a1 b0 b1) := by
    refine ⟨by simp, ?_, ?_, ?_, ?_⟩ <;> simp [go_sem]
  generalize (x0.alloc (.cells #[.int .i64 a0, .int .i64 a1] 99)).alloc (.cells #[.int .i64 b0, .int .i64 b1] 99) = X at HXB HL ⊢
  generalize hm : x0.heap.size = m at *
  refine wp_region_preds (by kernel_rfl) (by kernel_rfl) (by kernel_rfl) (by kernel_rfl) (fun j => [(fun v _ => v = .pointer (some ⟨m, 0, none⟩)), (fun v _ => v = .int .i64 a0), (fun v _ => v = .pointer (some ⟨m + 1, 0, none⟩)), (fun v _ => v = .int .i64 b0), (fun v _ => v = .int .i64 (cmpF a0 b0)), (fun v _ => v = .pointer (some ⟨m, 1, none⟩)), (fun v _ => v = .int .i64 a1), (fun v _ => v = .pointer (some ⟨m + 1, 1, none⟩)), (fun v _ => v = .int .i64 b1), (fun v _ => v = .int .i64 (cmpF a1 b1)), (fun v x => ∃ r, v = .slice (some ⟨r, 0, none⟩) 2 2 ∧ Two x r (cmpF a0 b0) (cmpF a1 b1)), (fun v _ => v = .int .i64 (orF (cmpF a0 b0) (cmpF a1 b1))), (fun v _ => v = .int .i64 (orF (cmpF a0 b0) (cmpF a1 b1)))].getD j (fun _ _ => True)) ?stable X ((Below.refl _ _).drew) ?step (fun V => ⟨List.toArray ((.agg #[.int .i64 a0, .int .i64 a1]) :: (.agg #[.int .i64 b0, .int .i64 b1]) :: (.pointer (some ⟨m, 0, none⟩)) :: (.pointer (some ⟨m + 1, 0, none⟩)) :: (V 12) :: (V 0) :: (V 1) :: (V 2) :: (V 3) :: (V 4) :: (V 5) :: (V 6) :: (V 7) :: (V 8) :: (V 9) :: (V 10) :: (V 11) :: []), []⟩) (fun V => by kernel_rfl) ?last
  case stable =>
    intro i v x y ht hb
    rcases i with _ | i
    · exact ht
    rcases i with _ | i
    · exact ht
    rcases i with _ | i
    · exact ht
    rcases i with _ | i
    · exact ht
    rcases i with _ | i
    · exact ht
    rcases i with _ | i
    · exact ht
    rcases i with _ | i
    · exact ht
    rcases i with _ | i
    · exact ht
    rcases i with _ | i
    · exact ht
    rcases i with _ | i
    · exact ht
    rcases i with _ | i
    · exact (Exists.elim ht fun r hr => ⟨r, hr.1, hr.2.later hb⟩)
    rcases i with _ | i
    · exact ht
    rcases i with _ | i
    · exact ht
    exact trivial
  case step =>
    intro i o ho ρ y x hBx hdep hout
    rcases i with _ | i
    · obtain rfl := Option.some.inj ho
      have o2 : ρ (.tmp 2) = .pointer (some ⟨m, 0, none⟩) := hout (.tmp 2) rfl
      have ocn : ∀ v, ρ (.const v) = v := fun v => hout (.const v) rfl
      have ofn : ∀ f, ρ (.func f) = .func (.func f) #[] #[] := fun f => hout (.func f) rfl
      clear hdep hout
      refine .inl ⟨rfl, ?_⟩
      show GivesP _ _ _ (fun v _ => v = .pointer (some ⟨m, 0, none⟩)) _
      refine GivesP.val (.pointer (some ⟨m, 0, none⟩)) rfl ?_
      go_simp
    rcases i with _ | i
    · obtain rfl := Option.some.inj ho
      have e0 : ρ (.tmp 5) = .pointer (some ⟨m, 0, none⟩) := (hdep ⟨0, .data⟩ (by simp) rfl 5 rfl).1
      have ocn : ∀ v, ρ (.const v) = v := fun v => hout (.const v) rfl
      have ofn : ∀ f, ρ (.func f) = .func (.func f) #[] #[] := fun f => hout (.func f) rfl
      clear hdep hout
      refine .inl ⟨rfl, ?_⟩
      have c0 : x.cell? ⟨m, 0, none⟩ = some (.int .i64 a0) := (HL.out.later hBx).ca0
      show GivesP _ _ _ (fun v _ => v = .int .i64 a0) _
      refine GivesP.val (.int .i64 a0) rfl ?_
      go_simp
    rcases i with _ | i
    · obtain rfl := Option.some.inj ho
      have o3 : ρ (.tmp 3) = .pointer (some ⟨m + 1, 0, none⟩) := hout (.tmp 3) rfl
      have ocn : ∀ v, ρ (.const v) = v := fun v => hout (.const v) rfl
      have ofn : ∀ f, ρ (.func f) = .func (.func f) #[] #[] := fun f => hout (.func f) rfl
      clear hdep hout
      refine .inl ⟨rfl, ?_⟩
      show GivesP _ _ _ (fun v _ => v = .pointer (some ⟨m + 1, 0, none⟩)) _
      refine GivesP.val (.pointer (some ⟨m + 1, 0, none⟩)) rfl ?_
      go_simp
    rcases i with _ | i
    · obtain rfl := Option.some.inj ho
      have e2 : ρ (.tmp 7) = .pointer (some ⟨m + 1, 0, none⟩) := (hdep ⟨2, .data⟩ (by simp) rfl 7 rfl).1
      have ocn : ∀ v, ρ (.const v) = v := fun v => hout (.const v) rfl
      have ofn : ∀ f, ρ (.func f) = .func (.func f) #[] #[] := fun f => hout (.func f) rfl
      clear hdep hout
      refine .inl ⟨rfl, ?_⟩
      have c0 : x.cell? ⟨m + 1, 0, none⟩ = some (.int .i64 b0) := (HL.out.later hBx).cb0
      show GivesP _ _ _ (fun v _ => v = .int .i64 b0) _
      refine GivesP.val (.int .i64 b0) rfl ?_
      go_simp
    rcases i with _ | i
    · obtain rfl := Option.some.inj ho
      have e1 : ρ (.tmp 6) = .int .i64 a0 := (hdep ⟨1, .data⟩ (by simp) rfl 6 rfl).1
      have e3 : ρ (.tmp 8) = .int .i64 b0 := (hdep ⟨3, .data⟩ (by simp) rfl 8 rfl).1
      have ocn : ∀ v, ρ (.const v) = v := fun v => hout (.const v) rfl
      have ofn : ∀ f, ρ (.func f) = .func (.func f) #[] #[] := fun f => hout (.func f) rfl
      clear hdep hout
      refine .inl ⟨rfl, ?_⟩
      show GivesP _ _ _ (fun v _ => v = .int .i64 (cmpF a0 b0)) _
      refine GivesP.call ((compare_any a0 b0 x).mono fun e w9 h9 => ⟨_, h9.1, rfl, h9.2⟩) ?_
      go_simp
    rcases i with _ | i
    · obtain rfl := Option.some.inj ho
      have o2 : ρ (.tmp 2) = .pointer (some ⟨m, 0, none⟩) := hout (.tmp 2) rfl
      have ocn : ∀ v, ρ (.const v) = v := fun v => hout (.const v) rfl
      have ofn : ∀ f, ρ (.func f) = .func (.func f) #[] #[] := fun f => hout (.func f) rfl
      clear hdep hout
      refine .inl ⟨rfl, ?_⟩
      show GivesP _ _ _ (fun v _ => v = .pointer (some ⟨m, 1, none⟩)) _
      refine GivesP.val (.pointer (some ⟨m, 1, none⟩)) rfl ?_
      go_simp
    rcases i with _ | i
    · obtain rfl := Option.some.inj ho
      have e5 : ρ (.tmp 10) = .pointer (some ⟨m, 1, none⟩) := (hdep ⟨5, .data⟩ (by simp) rfl 10 rfl).1
      have ocn : ∀ v, ρ (.const v) = v := fun v => hout (.const v) rfl
      have ofn : ∀ f, ρ (.func f) = .func (.func f) #[] #[] := fun f => hout (.func f) rfl
      clear hdep hout
      refine .inl ⟨rfl, ?_⟩
      have c0 : x.cell? ⟨m, 1, none⟩ = some (.int .i64 a1) := (HL.out.later hBx).ca1
      show GivesP _ _ _ (fun v _ => v = .int .i64 a1) _
      refine GivesP.val (.int .i64 a1) rfl ?_
      go_simp
    rcases i with _ | i
    · obtain rfl := Option.some.inj ho
      have o3 : ρ (.tmp 3) = .pointer (some ⟨m + 1, 0, none⟩) := hout (.tmp 3) rfl
      have ocn : ∀ v, ρ (.const v) = v := fun v => hout (.const v) rfl
      have ofn : ∀ f, ρ (.func f) = .func (.func f) #[] #[] := fun f => hout (.func f) rfl
      clear hdep hout
      refine .inl ⟨rfl, ?_⟩
      show GivesP _ _ _ (fun v _ => v = .pointer (some ⟨m + 1, 1, none⟩)) _
      refine GivesP.val (.pointer (some ⟨m + 1, 1, none⟩)) rfl ?_
      go_simp
    rcases i with _ | i
    · obtain rfl := Option.some.inj ho
      have e7 : ρ (.tmp 12) = .pointer (some ⟨m + 1, 1, none⟩) := (hdep ⟨7, .data⟩ (by simp) rfl 12 rfl).1
      have ocn : ∀ v, ρ (.const v) = v := fun v => hout (.const v) rfl
      have ofn : ∀ f, ρ (.func f) = .func (.func f) #[] #[] := fun f => hout (.func f) rfl
      clear hdep hout
      refine .inl ⟨rfl, ?_⟩
      have c0 : x.cell? ⟨m + 1, 1, none⟩ = some (.int .i64 b1) := (HL.out.later hBx).cb1
      show GivesP _ _ _ (fun v _ => v = .int .i64 b1) _
      refine GivesP.val (.int .i64 b1) rfl ?_
      go_simp
    rcases i with _ | i
    · obtain rfl := Option.some.inj ho
      have e6 : ρ (.tmp 11) = .int .i64 a1 := (hdep ⟨6, .data⟩ (by simp) rfl 11 rfl).1
      have e8 : ρ (.tmp 13) = .int .i64 b1 := (hdep ⟨8, .data⟩ (by simp) rfl 13 rfl).1
      have ocn : ∀ v, ρ (.const v) = v := fun v => hout (.const v) rfl
      have ofn : ∀ f, ρ (.func f) = .func (.func f) #[] #[] := fun f => hout (.func f) rfl
      clear hdep hout
      refine .inl ⟨rfl, ?_⟩
      show GivesP _ _ _ (fun v _ => v = .int .i64 (cmpF a1 b1)) _
      refine GivesP.call ((compare_any a1 b1 x).mono fun e w9 h9 => ⟨_, h9.1, rfl, h9.2⟩) ?_
      go_simp
    rcases i with _ | i
    · obtain rfl := Option.some.inj ho
      have e4 : ρ (.tmp 9) = .int .i64 (cmpF a0 b0) := (hdep ⟨4, .data⟩ (by simp) rfl 9 rfl).1
      have e9 : ρ (.tmp 14) = .int .i64 (cmpF a1 b1) := (hdep ⟨9, .data⟩ (by simp) rfl 14 rfl).1
      have ocn : ∀ v, ρ (.const v) = v := fun v => hout (.const v) rfl
      have ofn : ∀ f, ρ (.func f) = .func (.func f) #[] #[] := fun f => hout (.func f) rfl
      clear hdep hout
      refine .inl ⟨rfl, ?_⟩
      show GivesP _ _ _ (fun v x => ∃ r, v = .slice (some ⟨r, 0, none⟩) 2 2 ∧ Two x r (cmpF a0 b0) (cmpF a1 b1)) _
      refine GivesP.made (.slice (some ⟨x.heap.size, 0, none⟩) 2 2) (x.alloc (.cells #[.int .i64 (cmpF a0 b0), .int .i64 (cmpF a1 b1)] 3)) ((Below.refl _ _).alloc (Nat.le_refl _) _) (⟨_, rfl, Two.new x _ _ _⟩) ?_
      go_simp
    rcases i with _ | i
    · obtain rfl := Option.some.inj ho
      have t10 := (hdep ⟨10, .data⟩ (by simp) rfl 15 rfl).1
      have t10 : (fun v x => ∃ r, v = .slice (some ⟨r, 0, none⟩) 2 2 ∧ Two x r (cmpF a0 b0) (cmpF a1 b1)) (ρ (.tmp 15)) x := t10
      obtain ⟨r10, e10, k10⟩ := t10
      have ocn : ∀ v, ρ (.const v) = v := fun v => hout (.const v) rfl
      have ofn : ∀ f, ρ (.func f) = .func (.func f) #[] #[] := fun f => hout (.func f) rfl
      clear hdep hout
      refine .inl ⟨rfl, ?_⟩
      show GivesP _ _ _ (fun v _ => v = .int .i64 (orF (cmpF a0 b0) (cmpF a1 b1))) _
      refine GivesP.call ((or_any x r10 2 _ _ k10.c0 k10.c1).mono fun e w9 h9 => ⟨_, h9.1, rfl, h9.2⟩) ?_
      go_simp
    rcases i with _ | i
    · obtain rfl := Option.some.inj ho
      have e11 : ρ (.tmp 16) = .int .i64 (orF (cmpF a0 b0) (cmpF a1 b1)) := (hdep ⟨11, .data⟩ (by simp) rfl 16 rfl).1
      have ocn : ∀ v, ρ (.const v) = v := fun v => hout (.const v) rfl
      have ofn : ∀ f, ρ (.func f) = .func (.func f) #[] #[] := fun f => hout (.func f) rfl
      clear hdep hout
      refine .inl ⟨rfl, ?_⟩
      show GivesP _ _ _ (fun v _ => v = .int .i64 (orF (cmpF a0 b0) (cmpF a1 b1))) _
      refine GivesP.val (.int .i64 (orF (cmpF a0 b0) (cmpF a1 b1))) rfl ?_
      go_simp
    cases ho
  case last =>
    intro V x hBx hV
    have e12 : V 12 = .int .i64 (orF (cmpF a0 b0) (cmpF a1 b1)) := hV 12 (by simp)
    clear hV
    go_wp2_with fail
    go_ret
    exact ⟨congrArg Ending.returned e12, by rw [hm]; exact HXB.out.trans (hBx.mono (by have := HXB.out.size; omega))⟩

end Go.Proofs.YtlkebkajdlgebaaGreat
