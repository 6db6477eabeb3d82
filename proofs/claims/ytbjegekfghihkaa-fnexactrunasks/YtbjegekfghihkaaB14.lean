import Derived.Test.YtbjegekfghihkaaB13
import Derived.Test.YtbjegekfghihkaaB12
/-
  The contract of the program's restIsZero: what letters do not name is 0.
-/
namespace Go.Proofs.Ytbjegekfghihkaa
open Go.RowKit
set_option linter.unusedVariables false
set_option linter.unusedSimpArgs false

/-- a number behind n letters: 0, if its letter was among them -/
def zF (s : ByteArray) (n : Nat) (c : UInt8) (v : Int) : Int := if c ∈ s.data.toList.take n then 0 else v
theorem zF_zero (s : ByteArray) (c : UInt8) (v : Int) : zF s 0 c v = v := by simp [zF]
theorem zF_succ (s : ByteArray) (n : Nat) (h : n < s.size) (c : UInt8) (v : Int) : zF s (n + 1) c v = if (s[n]'h) = c then 0 else zF s n c v := by
  unfold zF
  rw [List.take_succ_eq_append_getElem (by simpa using h)]
  by_cases e : (s[n]'h) = c
  · rw [if_pos e, if_pos]
    rw [List.mem_append]; right; rw [← e]; simp; rfl
  · rw [if_neg e]
    have : (c ∈ s.data.toList.take n ++ [s.data.toList[n]'(by simpa using h)]) ↔ c ∈ s.data.toList.take n := by
      rw [List.mem_append]
      constructor
      · rintro (k | k)
        · exact k
        · exact absurd (List.mem_singleton.1 k).symm e
      · exact .inl
    simp only [this]
def restF (s : ByteArray) (a b c : Int) : Bool := (zF s s.size 65 a == 0) && (zF s s.size 66 b == 0) && (zF s s.size 67 c == 0)

theorem retB {a b : Bool} (h : a = b) : Ending.returned (.bool a) = .returned (.bool b) := by rw [h]

/-- a block of four numbers -/
structure I4w (x : World) (m : Nat) (k a b c : Int) : Prop where
  lt : m < x.heap.size
  c0 : x.cell? ⟨m, 0, none⟩ = some (.int .i64 k)
  c1 : x.cell? ⟨m, 1, none⟩ = some (.int .i64 a)
  c2 : x.cell? ⟨m, 2, none⟩ = some (.int .i64 b)
  c3 : x.cell? ⟨m, 3, none⟩ = some (.int .i64 c)
  f1 : x.frozen? ⟨m, 1, none⟩ = false
  f2 : x.frozen? ⟨m, 2, none⟩ = false
  f3 : x.frozen? ⟨m, 3, none⟩ = false
theorem I4w.later {x y : World} {m : Nat} {k a b c : Int} (h : I4w x m k a b c) (hb : Below x.heap.size x y) : I4w y m k a b c :=
  ⟨Nat.lt_of_lt_of_le h.lt hb.size, (hb.cell (p := ⟨m, 0, none⟩) h.lt).trans h.c0, (hb.cell (p := ⟨m, 1, none⟩) h.lt).trans h.c1, (hb.cell (p := ⟨m, 2, none⟩) h.lt).trans h.c2, (hb.cell (p := ⟨m, 3, none⟩) h.lt).trans h.c3, (hb.frozen (p := ⟨m, 1, none⟩) h.lt).trans h.f1, (hb.frozen (p := ⟨m, 2, none⟩) h.lt).trans h.f2, (hb.frozen (p := ⟨m, 3, none⟩) h.lt).trans h.f3⟩
theorem I4w.set1 {x : World} {m : Nat} {k a b c v : Int} (h : I4w x m k a b c) : I4w (x.setCell ⟨m, 1, none⟩ (.int .i64 v)) m k v b c := by
  obtain ⟨n, c0, c1, c2, c3, f1, f2, f3⟩ := h
  exact ⟨by simpa using n, by simp [go_sem, *], by simp [go_sem, *], by simp [go_sem, *], by simp [go_sem, *], by simp [go_sem, *], by simp [go_sem, *], by simp [go_sem, *]⟩
theorem I4w.set2 {x : World} {m : Nat} {k a b c v : Int} (h : I4w x m k a b c) : I4w (x.setCell ⟨m, 2, none⟩ (.int .i64 v)) m k a v c := by
  obtain ⟨n, c0, c1, c2, c3, f1, f2, f3⟩ := h
  exact ⟨by simpa using n, by simp [go_sem, *], by simp [go_sem, *], by simp [go_sem, *], by simp [go_sem, *], by simp [go_sem, *], by simp [go_sem, *], by simp [go_sem, *]⟩
theorem I4w.set3 {x : World} {m : Nat} {k a b c v : Int} (h : I4w x m k a b c) : I4w (x.setCell ⟨m, 3, none⟩ (.int .i64 v)) m k a b v := by
  obtain ⟨n, c0, c1, c2, c3, f1, f2, f3⟩ := h
  exact ⟨by simpa using n, by simp [go_sem, *], by simp [go_sem, *], by simp [go_sem, *], by simp [go_sem, *], by simp [go_sem, *], by simp [go_sem, *], by simp [go_sem, *]⟩

/-- the row of pointers -/
def Row (x : World) (g b : Nat) (s : ByteArray) : Prop := g < x.heap.size ∧ ∀ (j : Nat) (h : j < s.size), x.cell? ⟨g, j, none⟩ = some (.pointer (some ⟨b, (s[j]'h).toNat - 64, none⟩))
theorem Row.off {x : World} {g b m o : Nat} {s : ByteArray} {v : Value} (h : Row x g b s) (hne : g ≠ m) : Row (x.setCell ⟨m, o, none⟩ v) g b s :=
  ⟨by simpa using h.1, fun j hj => by have := h.2 j hj; have h2 : m ≠ g := Ne.symm hne; simp [go_sem, hne, h2, this]⟩

set_option maxRecDepth 100000 in
set_option maxHeartbeats 4000000 in
theorem restIsZero_any (k a b c : Int) (s : ByteArray) (x : World) (hs : ∀ (j : Nat) (h : j < s.size), (s[j]'h) = 65 ∨ (s[j]'h) = 66 ∨ (s[j]'h) = 67) (hz : s.size ≤ 3) (hz1 : 1 ≤ s.size) :
    Calls Try.prog 95 #[.agg #[.int .i64 k, .int .i64 a, .int .i64 b, .int .i64 c], .string s] x fun e y => e = .returned (.bool (restF s a b c)) ∧ Below x.heap.size x y := by
  have HS : Hid (∀ (j : Nat) (h : j < s.size), (s[j]'h) = 65 ∨ (s[j]'h) = 66 ∨ (s[j]'h) = 67) := hs
  have HZ : Hid (s.size ≤ 3) := hz
  have hx0 : I4w (x.alloc (.cells #[.int .i64 k, .int .i64 a, .int .i64 b, .int .i64 c] 86)) x.heap.size k a b c := ⟨by go_size, by simp [go_sem], by simp [go_sem], by simp [go_sem], by simp [go_sem], by simp [go_sem], by simp [go_sem], by simp [go_sem]⟩
  have hb0 : Below x.heap.size x (x.alloc (.cells #[.int .i64 k, .int .i64 a, .int .i64 b, .int .i64 c] 86)) := by go_grown
  have H0 : Hid (I4w (x.alloc (.cells #[.int .i64 k, .int .i64 a, .int .i64 b, .int .i64 c] 86)) x.heap.size k a b c ∧ Below x.heap.size x (x.alloc (.cells #[.int .i64 k, .int .i64 a, .int .i64 b, .int .i64 c] 86))) := ⟨hx0, hb0⟩
  clear hs hz hx0 hb0
  go_enter Try.func95, Try.ntmps95
  go_wp2_with fail
  refine (numbersOf_any x.heap.size s _ HS.out HZ.out).mono ?_
  rintro e y ⟨v, rfl, hown, hb⟩
  have hI := H0.out.1.later hb
  have hB := H0.out.2.trans (hb.mono (by go_size))
  obtain ⟨g, cap, rfl, hg1⟩ : ∃ g cap, v = .slice (some ⟨g, 0, none⟩) s.size cap ∧ x.heap.size + 1 < g + 1 := by
    rcases hown.2 with ⟨h', hn⟩ | ⟨g, cap, cur, h', hbb, _⟩
    · omega
    · exact ⟨g, cap, h', by simp at hbb; omega⟩
  have hR : Row y g x.heap.size s := ⟨(World.ownsRow.lt hown g rfl).2, fun j hj => by
    rw [World.ownsRow.cellAt hown j (by omega)]
    unfold PL
    simp [hj]
    rfl⟩
  have hgm : g ≠ x.heap.size := by omega
  clear hb hown H0
  have HR0 : Hid (Row y g x.heap.size s) := hR
  have hn3 : (s.size : Int) ≤ 3 := by have := HZ.out; omega
  clear hR
  go_wp2_with fail
  go_loopw [10] (fun s10 z => ∃ n : Nat, n ≤ s.size ∧ s10 = .int .i64 n ∧ I4w z x.heap.size k (zF s n 65 a) (zF s n 66 b) (zF s n 67 c) ∧ Hid (Row z g x.heap.size s) ∧ Below x.heap.size x z) (fun s10 _ => s.size - (intOf s10).toNat)
  case atStart => exact ⟨0, Nat.zero_le _, rfl, by rw [zF_zero, zF_zero, zF_zero]; exact hI, HR0.out, hB⟩
  case round =>
    clear hI hB HR0
    obtain ⟨n, hn, rfl, hI, HR, hB⟩ := hrel
    by_cases hlt : n < s.size
    · have hltI : (n : Int) < (s.size : Int) := by omega
      have q0 := HR.out.2 n hlt
      have qg := HR.out.1
      have ZA := zF_succ s n hlt 65 a
      have ZB := zF_succ s n hlt 66 b
      have ZC := zF_succ s n hlt 67 c
      have c3 := HS.out n hlt
      rcases c3 with e | e | e
      · rw [e] at q0 ZA ZB ZC
        have HZ4 : Hid (zF s (n + 1) 65 a = 0 ∧ zF s (n + 1) 66 b = zF s n 66 b ∧ zF s (n + 1) 67 c = zF s n 67 c) := ⟨by rw [ZA]; rfl, by rw [ZB]; rfl, by rw [ZC]; rfl⟩
        have q1 : wr.cell? ⟨g, n, none⟩ = some (.pointer (some ⟨x.heap.size, 1, none⟩)) := q0
        clear q0 ZA ZB ZC e
        have hI' := hI
        obtain ⟨nI, d0, d1, d2, d3, f1, f2, f3⟩ := hI'
        go_wp2_with fail
        go_roundw
        case rel => exact ⟨n + 1, by omega, by go_num, by rw [HZ4.out.1, HZ4.out.2.1, HZ4.out.2.2]; exact hI.set1, HR.out.off hgm, hB.setCell (Nat.le_refl _) _⟩
        case measure => simp [intOf]; omega
      · rw [e] at q0 ZA ZB ZC
        have HZ4 : Hid (zF s (n + 1) 65 a = zF s n 65 a ∧ zF s (n + 1) 66 b = 0 ∧ zF s (n + 1) 67 c = zF s n 67 c) := ⟨by rw [ZA]; rfl, by rw [ZB]; rfl, by rw [ZC]; rfl⟩
        have q1 : wr.cell? ⟨g, n, none⟩ = some (.pointer (some ⟨x.heap.size, 2, none⟩)) := q0
        clear q0 ZA ZB ZC e
        have hI' := hI
        obtain ⟨nI, d0, d1, d2, d3, f1, f2, f3⟩ := hI'
        go_wp2_with fail
        go_roundw
        case rel => exact ⟨n + 1, by omega, by go_num, by rw [HZ4.out.1, HZ4.out.2.1, HZ4.out.2.2]; exact hI.set2, HR.out.off hgm, hB.setCell (Nat.le_refl _) _⟩
        case measure => simp [intOf]; omega
      · rw [e] at q0 ZA ZB ZC
        have HZ4 : Hid (zF s (n + 1) 65 a = zF s n 65 a ∧ zF s (n + 1) 66 b = zF s n 66 b ∧ zF s (n + 1) 67 c = 0) := ⟨by rw [ZA]; rfl, by rw [ZB]; rfl, by rw [ZC]; rfl⟩
        have q1 : wr.cell? ⟨g, n, none⟩ = some (.pointer (some ⟨x.heap.size, 3, none⟩)) := q0
        clear q0 ZA ZB ZC e
        have hI' := hI
        obtain ⟨nI, d0, d1, d2, d3, f1, f2, f3⟩ := hI'
        go_wp2_with fail
        go_roundw
        case rel => exact ⟨n + 1, by omega, by go_num, by rw [HZ4.out.1, HZ4.out.2.1, HZ4.out.2.2]; exact hI.set3, HR.out.off hgm, hB.setCell (Nat.le_refl _) _⟩
        case measure => simp [intOf]; omega
    · obtain rfl : n = s.size := by omega
      have HF : Hid (restF s a b c = ((zF s s.size 65 a == 0) && (zF s s.size 66 b == 0) && (zF s s.size 67 c == 0))) := rfl
      generalize zF s s.size 65 a = p at hI HF
      generalize zF s s.size 66 b = q at hI HF
      generalize zF s s.size 67 c = r at hI HF
      obtain ⟨nI, d0, d1, d2, d3, f1, f2, f3⟩ := hI
      clear HR
      go_wp2_with fail
      all_goals
        go_ret
        exact ⟨retB (by rw [HF.out]; simp [*]), by assumption⟩
end Go.Proofs.Ytbjegekfghihkaa

/-
  That an instruction fits and has no needless numbers is that it is ok.
-/
namespace Go.Proofs.Ytbjegekfghihkaa
open Go.RowKit
set_option linter.unusedVariables false
set_option linter.unusedSimpArgs false

/-- whether an instruction fits into a room -/
def fitsF (i : I4) (p q : Int) : Bool :=
  let a := inI i.2.1 0 2
  let b := inI i.2.2.1 0 2
  let c := inI i.2.2.2 0 2
  if i.1 = 1 then a && inI i.2.2.1 (-16) 15
  else if i.1 = 3 then a && inI i.2.2.1 (-16) 15 && decide (0 ≤ i.2.2.1)
  else if i.1 = 2 ∨ i.1 = 11 ∨ i.1 = 12 then (a && b)
  else if i.1 = 4 then (a && b) && inI i.2.2.2 1 6
  else if i.1 = 5 then inI i.2.2.2 0 q
  else if i.1 = 6 ∨ i.1 = 7 then (a && b) && inI i.2.2.2 0 q
  else if i.1 = 8 then (a && c) && inI i.2.2.1 0 (p - 1)
  else a

theorem rest_A (a b c : Int) : restF ⟨#[65]⟩ a b c = (decide (b = 0) && decide (c = 0)) := by
  have h : (⟨#[65]⟩ : ByteArray).size = 1 := rfl
  unfold restF; rw [h, Bool.eq_iff_iff]
  simp [zF]
theorem rest_C (a b c : Int) : restF ⟨#[67]⟩ a b c = (decide (a = 0) && decide (b = 0)) := by
  have h : (⟨#[67]⟩ : ByteArray).size = 1 := rfl
  unfold restF; rw [h, Bool.eq_iff_iff]
  simp [zF]
theorem rest_AB (a b c : Int) : restF ⟨#[65, 66]⟩ a b c = decide (c = 0) := by
  have h : (⟨#[65, 66]⟩ : ByteArray).size = 2 := rfl
  unfold restF; rw [h, Bool.eq_iff_iff]
  simp [zF]
theorem rest_ABC (a b c : Int) : restF ⟨#[65, 66, 67]⟩ a b c = true := by
  have h : (⟨#[65, 66, 67]⟩ : ByteArray).size = 3 := rfl
  unfold restF; rw [h]
  simp [zF]

theorem fits_ok (i : I4) (p q : Int) (h1 : 1 ≤ i.1) (h2 : i.1 ≤ 12) : (fitsF i p q && restF (lettersF i.1) i.2.1 i.2.2.1 i.2.2.2) = insOkF i q p := by
  obtain ⟨K, a, b, c⟩ := i
  simp only at h1 h2
  obtain rfl | rfl | rfl | rfl | rfl | rfl | rfl | rfl | rfl | rfl | rfl | rfl : K = 1 ∨ K = 2 ∨ K = 3 ∨ K = 4 ∨ K = 5 ∨ K = 6 ∨ K = 7 ∨ K = 8 ∨ K = 9 ∨ K = 10 ∨ K = 11 ∨ K = 12 := by omega
  all_goals
    rw [Bool.eq_iff_iff]
    simp [fitsF, insOkF, lettersF, rest_A, rest_C, rest_AB, rest_ABC, inI]
    try omega
end Go.Proofs.Ytbjegekfghihkaa
