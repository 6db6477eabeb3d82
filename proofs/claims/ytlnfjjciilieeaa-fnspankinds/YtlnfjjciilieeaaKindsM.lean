/-
  The draw of the law FnSpanKinds; a block of three numbers; plain mathematics of kinds.
-/
import Derived.Test.YtlnfjjciilieeaaKindsN
namespace Go.Proofs.Ytlnfjjciilieeaa
open Go.RowKit
set_option linter.unusedVariables false
set_option linter.unusedSimpArgs false

structure GotOne (w : World) (e : Ending) (y : World) : Prop where
  it : ∃ a l u, e = .returned (.agg #[.bool a, .int .i64 l, .int .i64 u]) ∧ Below w.heap.size w y

set_option maxHeartbeats 2000000 in
theorem drawSpanKinds_any (a : Option Addr) (len cap : Nat) (zs : List Int) (w : World) (h : IsRow w a len cap zs) :
    Calls Try.prog 32 #[.slice a len cap] w fun e y => GotOne w e y := by
  have hb0 : Below w.heap.size w (w.alloc (.cells #[.bool false, .int .i64 0, .int .i64 0] 24)) := by go_grown
  have h' := IsRow.later h hb0
  go_enter Try.func32, Try.ntmps32
  go_wp2_with fail
  refine (open_any a len cap zs _ h').mono ?_
  rintro e x ⟨rfl, hR, hb⟩
  have c0 := (hb.cell (p := ⟨w.heap.size, 0, none⟩) (by go_size)).trans (show _ = some (.bool false) by simp [go_sem])
  have c1 := (hb.cell (p := ⟨w.heap.size, 1, none⟩) (by go_size)).trans (show _ = some (.int .i64 0) by simp [go_sem])
  have c2 := (hb.cell (p := ⟨w.heap.size, 2, none⟩) (by go_size)).trans (show _ = some (.int .i64 0) by simp [go_sem])
  have f0 := (hb.frozen (p := ⟨w.heap.size, 0, none⟩) (by go_size)).trans (show _ = false by simp [go_sem])
  have f1 := (hb.frozen (p := ⟨w.heap.size, 1, none⟩) (by go_size)).trans (show _ = false by simp [go_sem])
  have f2 := (hb.frozen (p := ⟨w.heap.size, 2, none⟩) (by go_size)).trans (show _ = false by simp [go_sem])
  have hrn : (w.alloc (.cells #[.bool false, .int .i64 0, .int .i64 0] 24)).heap.size = w.heap.size + 1 := by simp
  have hB := hb0.trans (hb.mono (by go_size))
  rw [hrn] at hR
  rw [hrn]
  have hrx := hR.lt
  clear hb hrn hb0 h h'
  go_wp2_with fail
  refine (l71Span_any (w.heap.size + 1) 0 _ hR (by omega)).mono ?_
  rintro e y1 hg1
  obtain ⟨a1, l1, u1, rfl, b10, b11, b12, b13, hD1⟩ := hg1.it
  obtain ⟨c0', c1', c2', f0', f1', f2'⟩ := q_cells hD1 (q := w.heap.size) (by omega) (by omega) c0 c1 c2 f0 f1 f2
  have hF : Below w.heap.size w y1 := hB.trans (hD1.below.mono (by omega))
  clear hg1 hD1 hR hB c0 c1 c2 f0 f1 f2
  go_wp2
  refine bodyPost_ret (v := .agg #[.bool a1, .int .i64 l1, .int .i64 u1]) (by simp [results, Try.results32, go_sem, c0', c1', c2']) rfl ⟨_, _, _, rfl, ?_⟩
  go_grown

/-- a block of three numbers -/
structure I3 (x : World) (m : Nat) (a b c : Int) : Prop where
  lt : m < x.heap.size
  c0 : x.cell? ⟨m, 0, none⟩ = some (.int .i64 a)
  c1 : x.cell? ⟨m, 1, none⟩ = some (.int .i64 b)
  c2 : x.cell? ⟨m, 2, none⟩ = some (.int .i64 c)
  f0 : x.frozen? ⟨m, 0, none⟩ = false
  f1 : x.frozen? ⟨m, 1, none⟩ = false
  f2 : x.frozen? ⟨m, 2, none⟩ = false
theorem I3.later {x y : World} {m : Nat} {a b c : Int} (h : I3 x m a b c) (hb : Below x.heap.size x y) : I3 y m a b c :=
  ⟨Nat.lt_of_lt_of_le h.lt hb.size, (hb.cell (p := ⟨m, 0, none⟩) h.lt).trans h.c0, (hb.cell (p := ⟨m, 1, none⟩) h.lt).trans h.c1, (hb.cell (p := ⟨m, 2, none⟩) h.lt).trans h.c2, (hb.frozen (p := ⟨m, 0, none⟩) h.lt).trans h.f0, (hb.frozen (p := ⟨m, 1, none⟩) h.lt).trans h.f1, (hb.frozen (p := ⟨m, 2, none⟩) h.lt).trans h.f2⟩
theorem I3.set0 {x : World} {m : Nat} {a b c v : Int} (h : I3 x m a b c) : I3 (x.setCell ⟨m, 0, none⟩ (.int .i64 v)) m v b c := by
  obtain ⟨n, c0, c1, c2, f0, f1, f2⟩ := h
  exact ⟨by simpa using n, by simp [go_sem, *], by simp [go_sem, *], by simp [go_sem, *], by simp [go_sem, *], by simp [go_sem, *], by simp [go_sem, *]⟩
theorem I3.set1 {x : World} {m : Nat} {a b c v : Int} (h : I3 x m a b c) : I3 (x.setCell ⟨m, 1, none⟩ (.int .i64 v)) m a v c := by
  obtain ⟨n, c0, c1, c2, f0, f1, f2⟩ := h
  exact ⟨by simpa using n, by simp [go_sem, *], by simp [go_sem, *], by simp [go_sem, *], by simp [go_sem, *], by simp [go_sem, *], by simp [go_sem, *]⟩
theorem I3.set2 {x : World} {m : Nat} {a b c v : Int} (h : I3 x m a b c) : I3 (x.setCell ⟨m, 2, none⟩ (.int .i64 v)) m a b v := by
  obtain ⟨n, c0, c1, c2, f0, f1, f2⟩ := h
  exact ⟨by simpa using n, by simp [go_sem, *], by simp [go_sem, *], by simp [go_sem, *], by simp [go_sem, *], by simp [go_sem, *], by simp [go_sem, *]⟩
theorem Owns.off {x : World} {B m i : Nat} {v u : Value} {L : List Int} (h : Owns x B v L) (hm : ∀ k, v.ownBlock = some k → k ≠ m) : Owns (x.setCell ⟨m, i, none⟩ u) B v L :=
  World.ownsRow.kept h (row := some m) ⟨rfl, rfl, rfl, by simp, fun k hk hne => by
    have hne' : m ≠ k := fun e => hne (by rw [e])
    simp [World.setCell, Array.getElem?_setIfInBounds_ne, Array.getElem?_modify, hne']⟩ (by
      cases hv : v.ownBlock with
      | none => simp
      | some k => have := hm k hv; simp; exact this)

def knF (n : Int) : Int := if n < 0 then 0 else if n = 0 then 1 else 2
theorem kind_has {k n : Int} (hk : k = 0 ∨ k = 1 ∨ k = 2) (hn : -16 ≤ n ∧ n ≤ 15) : hasF (kindF k).1 (kindF k).2.1 (kindF k).2.2 n = decide (knF n = k) := by
  rw [Bool.eq_iff_iff, has_iff, decide_eq_true_eq]
  by_cases e : n < 0
  · have e2 : knF n = 0 := by simp [knF, e]
    rw [e2]
    rcases hk with rfl | rfl | rfl <;> simp [kindF, okF] <;> omega
  · by_cases e1 : n = 0
    · have e2 : knF n = 1 := by simp [knF, e1]
      rw [e2]
      rcases hk with rfl | rfl | rfl <;> simp [kindF, okF] <;> omega
    · have e2 : knF n = 2 := by unfold knF; rw [if_neg e, if_neg e1]
      rw [e2]
      rcases hk with rfl | rfl | rfl <;> simp [kindF, okF] <;> omega
theorem kin_iff {a : Bool} {l u : Int} {j : Nat} (hj : j < 3) : kinHas a l u j = true ↔ ∃ p, hasF a l u p = true ∧ knF p = j := by
  unfold kinHas meetF bothF
  constructor
  · intro h
    split at h
    · rename_i hb
      simp only [Bool.and_eq_true] at hb
      obtain ⟨⟨⟨h1, h2⟩, h3⟩, h4⟩ := hb
      subst h3
      have e1 := okF_bd h1
      obtain rfl | rfl | rfl : j = 0 ∨ j = 1 ∨ j = 2 := by omega
      · simp [kindF, mkF] at h
        have hh : ¬ min u (-1) < max l (-16) := fun e => by simp [e, noSp] at h
        refine ⟨max l (-16), has_iff.2 ⟨rfl, h1, by omega, by omega⟩, ?_⟩
        simp [knF]; omega
      · simp [kindF, mkF] at h
        have hh : ¬ min u 0 < max l 0 := fun e => by simp [e, noSp] at h
        refine ⟨0, has_iff.2 ⟨rfl, h1, by omega, by omega⟩, ?_⟩
        simp [knF]
      · simp [kindF, mkF] at h
        have hh : ¬ min u 15 < max l 1 := fun e => by simp [e, noSp] at h
        refine ⟨max l 1, has_iff.2 ⟨rfl, h1, by omega, by omega⟩, ?_⟩
        have : ¬ max l 1 < 0 := by omega
        have h0 : ¬ max l 1 = 0 := by omega
        simp [knF, this, h0]
    · simp [noSp] at h
  · rintro ⟨p, hp, hk⟩
    obtain ⟨rfl, h1, h2, h3⟩ := has_iff.1 hp
    have hb := has_bd hp
    have e1 := okF_bd h1
    unfold knF at hk
    obtain rfl | rfl | rfl : j = 0 ∨ j = 1 ∨ j = 2 := by omega
    · have : p < 0 := by
        by_cases e : p < 0
        · exact e
        · rw [if_neg e] at hk; split at hk <;> simp at hk
      rw [if_pos (by simp [kindF, okF]; omega)]
      simp [kindF, mkF]; rw [if_neg (by omega)]
    · have : p = 0 := by
        by_cases e : p < 0
        · rw [if_pos e] at hk; simp at hk
        · rw [if_neg e] at hk; by_cases e2 : p = 0
          · exact e2
          · rw [if_neg e2] at hk; simp at hk
      rw [if_pos (by simp [kindF, okF]; omega)]
      simp [kindF, mkF]; rw [if_neg (by omega)]
    · have : 0 < p := by
        by_cases e : p < 0
        · rw [if_pos e] at hk; simp at hk
        · rw [if_neg e] at hk; by_cases e2 : p = 0
          · rw [if_pos e2] at hk; simp at hk
          · omega
      rw [if_pos (by simp [kindF, okF]; omega)]
      simp [kindF, mkF]; rw [if_neg (by omega)]
theorem hasL_KL {a : Bool} {l u : Int} : hasL (KL a l u 3) 0 = kinHas a l u 0 ∧ hasL (KL a l u 3) 1 = kinHas a l u 1 ∧ hasL (KL a l u 3) 2 = kinHas a l u 2 := by
  cases h0 : kinHas a l u 0 <;> cases h1 : kinHas a l u 1 <;> cases h2 : kinHas a l u 2 <;> simp [KL, h0, h1, h2, hasL]

/-- what 'found' says of kind j behind all words below n -/
def Fd (a : Bool) (l u : Int) (j n c : Int) : Prop := (c = 0 ∨ c = 1) ∧ (c = 1 ↔ ∃ p, -16 ≤ p ∧ p < n ∧ hasF a l u p = true ∧ knF p = j)
theorem Fd.zero {a : Bool} {l u j : Int} : Fd a l u j (-16) 0 := ⟨.inl rfl, ⟨fun h => by simp at h, fun ⟨p, h1, h2, _⟩ => by omega⟩⟩
theorem Fd.stay {a : Bool} {l u j n c : Int} (h : Fd a l u j n c) (hn : ¬ (hasF a l u n = true ∧ knF n = j)) : Fd a l u j (n + 1) c := by
  refine ⟨h.1, h.2.trans ⟨?_, ?_⟩⟩
  · rintro ⟨p, h1, h2, h3⟩; exact ⟨p, h1, by omega, h3⟩
  · rintro ⟨p, h1, h2, h3⟩
    by_cases e : p = n
    · rw [e] at h3; exact absurd h3 hn
    · exact ⟨p, h1, by omega, h3⟩
theorem Fd.one {a : Bool} {l u j n : Int} (h0 : -16 ≤ n) (h1 : hasF a l u n = true) (h2 : knF n = j) : Fd a l u j (n + 1) 1 :=
  ⟨.inr rfl, ⟨fun _ => ⟨n, h0, by omega, h1, h2⟩, fun _ => rfl⟩⟩
theorem Fd.end_ {l u c : Int} {b : Bool} {j : Nat} (hj : j < 3) (h : Fd b l u (j : Int) 16 c) : (c == 1) = kinHas b l u j := by
  rw [Bool.eq_iff_iff, kin_iff hj]
  simp only [beq_iff_eq]
  rw [h.2]
  constructor
  · rintro ⟨p, _, _, h3⟩; exact ⟨p, h3⟩
  · rintro ⟨p, h3⟩; have := has_bd h3.1; exact ⟨p, by omega, by omega, h3⟩
end Go.Proofs.Ytlnfjjciilieeaa
