/-
  The contract of the program's SpanDo.
-/
import Derived.Test.YtlnfjjciilieeaaDoM
import Derived.Test.YtlnfjjciilieeaaJoin
namespace Go.Proofs.Ytlnfjjciilieeaa
open Go.RowKit
set_option linter.unusedVariables false
set_option linter.unusedSimpArgs false

theorem deed_any (op a b : Int) (w : World) (ha1 : -16 ≤ a) (ha2 : a ≤ 15) (hb1 : -16 ≤ b) (hb2 : b ≤ 15) :
    Calls Try.prog (deedNo op) #[.int .i64 a, .int .i64 b] w fun e w' => e = .returned (.tuple #[.int .i64 (giveF op a b), .bool (canF op b)]) ∧ w' = w := by
  rcases op_cases op with rfl | rfl | rfl | rfl | rfl | rfl | h
  · exact add_any a b w ha1 ha2 hb1 hb2
  · exact sub_any a b w ha1 ha2 hb1 hb2
  · exact mul_any a b w ha1 ha2 hb1 hb2
  · exact div_any a b w ha1 ha2 hb1 hb2
  · exact less_any a b w ha1 ha2 hb1 hb2
  · exact same_any a b w ha1 ha2 hb1 hb2
  · rw [deedNo_out h, can_out h, give_out h]; exact never_any a b w

theorem deed_enter (op : Int) (args : Array Value) (w : World) : Sem.run Try.prog (callFunc (deedNo op) args) w = .ok (.enter (deedNo op) args) w := by
  rcases op_cases op with rfl | rfl | rfl | rfl | rfl | rfl | h
  iterate 6
    · rfl
  · rw [deedNo_out h]; rfl

theorem allWords_any (w : World) : Calls Try.prog 57 #[] w fun e w' => e = .returned (.agg #[.bool true, .int .i64 (-16), .int .i64 15]) ∧ Below w.heap.size w w' := by
  go_enter Try.func57, Try.ntmps57
  go_wp2
  go_returns
  exact ⟨rfl, by go_grown⟩

/-- the cells of a span in block m -/
structure Sp3 (x : World) (m : Nat) (a : Bool) (l u : Int) : Prop where
  lt : m < x.heap.size
  c0 : x.cell? ⟨m, 0, none⟩ = some (.bool a)
  c1 : x.cell? ⟨m, 1, none⟩ = some (.int .i64 l)
  c2 : x.cell? ⟨m, 2, none⟩ = some (.int .i64 u)
  f0 : x.frozen? ⟨m, 0, none⟩ = false
  f1 : x.frozen? ⟨m, 1, none⟩ = false
  f2 : x.frozen? ⟨m, 2, none⟩ = false
theorem Sp3.later {x y : World} {m : Nat} {a : Bool} {l u : Int} (h : Sp3 x m a l u) (hb : Below x.heap.size x y) : Sp3 y m a l u :=
  ⟨Nat.lt_of_lt_of_le h.lt hb.size, (hb.cell (p := ⟨m, 0, none⟩) h.lt).trans h.c0, (hb.cell (p := ⟨m, 1, none⟩) h.lt).trans h.c1, (hb.cell (p := ⟨m, 2, none⟩) h.lt).trans h.c2, (hb.frozen (p := ⟨m, 0, none⟩) h.lt).trans h.f0, (hb.frozen (p := ⟨m, 1, none⟩) h.lt).trans h.f1, (hb.frozen (p := ⟨m, 2, none⟩) h.lt).trans h.f2⟩
theorem Sp3.alloc {x : World} {m : Nat} {a : Bool} {l u : Int} (h : Sp3 x m a l u) (b : _) : Sp3 (x.alloc b) m a l u := h.later (Below.alloc (Below.refl _ _) (Nat.le_refl _) _)
theorem Sp3.drew {x : World} {m : Nat} {a : Bool} {l u : Int} (h : Sp3 x m a l u) : Sp3 x.drew m a l u := h.later (Below.drew (Below.refl _ _))
/-- what is written into another block does not touch it -/
theorem Sp3.off {x : World} {m : Nat} {a : Bool} {l u : Int} (h : Sp3 x m a l u) {g o : Nat} {v : Value} (hne : m ≠ g) : Sp3 (x.setCell ⟨g, o, none⟩ v) m a l u := by
  obtain ⟨h0, h1, h2, h3, h4, h5, h6⟩ := h
  refine ⟨?_, ?_, ?_, ?_, ?_, ?_, ?_⟩
  all_goals first | (simp [go_sem]; done) | (simp [go_sem, hne, *]; done) | (simp [go_sem, Ne.symm hne, *]; done)
/-- a span is written over -/
theorem Sp3.set {x : World} {m : Nat} {a b : Bool} {l u k v : Int} (h : Sp3 x m a l u) : Sp3 (((x.setCell ⟨m, 0, none⟩ (.bool b)).setCell ⟨m, 1, none⟩ (.int .i64 k)).setCell ⟨m, 2, none⟩ (.int .i64 v)) m b k v := by
  obtain ⟨h0, h1, h2, h3, h4, h5, h6⟩ := h
  refine ⟨?_, ?_, ?_, ?_, ?_, ?_, ?_⟩
  all_goals first | (simp [go_sem]; done) | (simp [go_sem, *]; done)

/-- the world while SpanDo is at work: both spans, room for the answer, and what is given so far -/
structure DoSt (w x : World) (g : Nat) (al ah bl bh : Int) (s : Sp) : Prop where
  bel : Below w.heap.size w x
  gt : w.heap.size + 1 + 1 < g
  sa : Sp3 x w.heap.size true al ah
  sb : Sp3 x (w.heap.size + 1) true bl bh
  sr : Sp3 x (w.heap.size + 1 + 1) false 0 0
  sg : Sp3 x g s.1 s.2.1 s.2.2
theorem DoSt.later {w x y : World} {g : Nat} {al ah bl bh : Int} {s : Sp} (h : DoSt w x g al ah bl bh s) (hb : Below x.heap.size x y) : DoSt w y g al ah bl bh s :=
  ⟨h.bel.trans (hb.mono h.bel.size), h.gt, h.sa.later hb, h.sb.later hb, h.sr.later hb, h.sg.later hb⟩
theorem DoSt.set {w x : World} {g : Nat} {al ah bl bh : Int} {s t : Sp} (h : DoSt w x g al ah bl bh s) : DoSt w (((x.setCell ⟨g, 0, none⟩ (.bool t.1)).setCell ⟨g, 1, none⟩ (.int .i64 t.2.1)).setCell ⟨g, 2, none⟩ (.int .i64 t.2.2)) g al ah bl bh t := by
  have hg := h.gt
  have n0 : w.heap.size ≠ g := by omega
  have n1 : w.heap.size + 1 ≠ g := by omega
  have n2 : w.heap.size + 1 + 1 ≠ g := by omega
  exact ⟨((h.bel.setCell (by simp; omega) _).setCell (by simp; omega) _).setCell (by simp; omega) _, hg, ((h.sa.off n0).off n0).off n0, ((h.sb.off n1).off n1).off n1, ((h.sr.off n2).off n2).off n2, h.sg.set⟩

/-- what SpanDo hands back -/
def DoRet (op : Int) (a : Bool) (al ah : Int) (b : Bool) (bl bh : Int) (w : World) (e : Ending) (w' : World) : Prop := ∃ s, DoIs op a al ah b bl bh s ∧ RetSp s e ∧ Below w.heap.size w w'
theorem addS_eq (s : Sp) (n : Int) : addF s.1 s.2.1 s.2.2 n = addS s n := rfl
theorem both_t {a b : Bool} {al ah bl bh : Int} (h : bothF a al ah b bl bh = true) : a = true ∧ b = true ∧ -16 ≤ al ∧ ah ≤ 15 ∧ al ≤ ah ∧ -16 ≤ bl ∧ bh ≤ 15 ∧ bl ≤ bh := by
  simp only [bothF, Bool.and_eq_true] at h
  obtain ⟨⟨⟨h1, h2⟩, rfl⟩, rfl⟩ := h
  have e1 := okF_bd h1
  have e2 := okF_bd h2
  exact ⟨rfl, rfl, by omega, by omega, by omega, by omega, by omega, by omega⟩
theorem give_can {op a b : Int} (h : canF op b = true) : giveF op a b = rawF op a b := by simp [giveF, h]

set_option maxHeartbeats 2000000 in
theorem doSp_impl_in (op al ah bl bh : Int) (w : World) (hbo : bothF true al ah true bl bh = true) :
    Calls Try.prog 26 #[.int .i64 op, .agg #[.bool true, .int .i64 al, .int .i64 ah], .agg #[.bool true, .int .i64 bl, .int .i64 bh]] w fun e w' => DoRet op true al ah true bl bh w e w' := by
  have hD := deedOf_any op
  have hbo' : Hid (bothF true al ah true bl bh = true) := hbo
  obtain ⟨_, _, ha1, ha2, haa, hb1, hb2, hbb⟩ := both_t hbo
  clear hbo
  go_enter Try.func26, Try.ntmps26
  go_wp2_with fail
  refine (both_impl _ _ _ _ _ _ _).mono ?_
  rintro e w1 ⟨rfl, hr1⟩
  rw [hbo'.out]
  have sa1 : Sp3 w1 w.heap.size true al ah := Sp3.later ⟨by go_size, by simp [go_sem], by simp [go_sem], by simp [go_sem], by simp [go_sem], by simp [go_sem], by simp [go_sem]⟩ hr1
  have sb1 : Sp3 w1 (w.heap.size + 1) true bl bh := Sp3.later ⟨by go_size, by simp [go_sem], by simp [go_sem], by simp [go_sem], by simp [go_sem], by simp [go_sem], by simp [go_sem]⟩ hr1
  have sr1 : Sp3 w1 (w.heap.size + 1 + 1) false 0 0 := Sp3.later ⟨by go_size, by simp [go_sem], by simp [go_sem], by simp [go_sem], by simp [go_sem], by simp [go_sem], by simp [go_sem]⟩ hr1
  have hB1 : Below w.heap.size w w1 := ((((Below.refl _ _).alloc (by go_size) _).alloc (by go_size) _).alloc (by go_size) _).trans (hr1.mono (by go_size))
  clear hr1
  go_wp2_with fail
  refine (hD _).mono ?_
  rintro e w2 ⟨rfl, hr2⟩
  have sa2 := sa1.later hr2
  have sb2 := sb1.later hr2
  have sr2 := sr1.later hr2
  have hB2 : Below w.heap.size w w2 := hB1.trans (hr2.mono hB1.size)
  clear sa1 sb1 sr1 hB1 hr2
  obtain ⟨n2x0, c2x0, c2x1, c2x2, f2x0, f2x1, f2x2⟩ := sa2
  go_wp2_with fail
  have hst : DoSt w (w2.alloc (.cells #[.bool false, .int .i64 0, .int .i64 0] 24)) w2.heap.size al ah bl bh noSp :=
    ⟨hB2.alloc hB2.size _, by have := sr2.lt; omega, Sp3.alloc ⟨n2x0, c2x0, c2x1, c2x2, f2x0, f2x1, f2x2⟩ _, sb2.alloc _, sr2.alloc _, ⟨by go_size, by simp [go_sem, noSp], by simp [go_sem, noSp], by simp [go_sem, noSp], by simp [go_sem], by simp [go_sem], by simp [go_sem]⟩⟩
  have hgw : w.heap.size + 1 + 1 < w2.heap.size := sr2.lt
  clear n2x0 c2x0 c2x1 c2x2 f2x0 f2x1 f2x2 sb2 sr2 hB2
  generalize w2.heap.size = g at hst hgw ⊢
  go_loopw [9] (fun i x => ∃ (n : Int) (s : Sp), i = .int .i64 n ∧ al ≤ n ∧ n ≤ ah + 1 ∧ Hull (SeenT op al bl bh n bl) s ∧ (∀ m, SeenT op al bl bh n bl m → isW m = true) ∧ DoSt w x g al ah bl bh s) (fun i _ => (ah + 1 - intOf i).toNat)
  case atStart => exact ⟨al, noSp, rfl, by omega, by omega, Hull.empty (seen_zero _ _ _ _), fun m hm => absurd hm (seen_zero _ _ _ _ _), hst⟩
  case round =>
    obtain ⟨n, s, rfl, hn1, hn2, hH, hW, hS⟩ := hrel
    have hS0 := hS
    obtain ⟨hB, hgt, ⟨nA, cA0, cA1, cA2, fA0, fA1, fA2⟩, ⟨nB, cB0, cB1, cB2, fB0, fB1, fB2⟩, ⟨nR, cR0, cR1, cR2, fR0, fR1, fR2⟩, ⟨nG, cG0, cG1, cG2, fG0, fG1, fG2⟩⟩ := hS
    by_cases hlt : n ≤ ah
    · go_wp2_with fail
      go_loopw [10] (fun i x => ∃ (y : Int) (s : Sp), i = .int .i64 y ∧ bl ≤ y ∧ y ≤ bh + 1 ∧ Hull (SeenT op al bl bh n y) s ∧ (∀ m, SeenT op al bl bh n y m → isW m = true) ∧ DoSt w x g al ah bl bh s) (fun i _ => (bh + 1 - intOf i).toNat)
      case atStart => exact ⟨bl, s, rfl, by omega, by omega, hH, hW, hS0⟩
      case round =>
        clear hS0 hB nA cA0 cA1 cA2 fA0 fA1 fA2 nB cB0 cB1 cB2 fB0 fB1 fB2 nR cR0 cR1 cR2 fR0 fR1 fR2 nG cG0 cG1 cG2 fG0 fG1 fG2 hH hW
        obtain ⟨y, t, rfl, hy1, hy2, hH, hW, hS⟩ := hrel
        have hS0 := hS
        obtain ⟨hB, hgt, ⟨nA, cA0, cA1, cA2, fA0, fA1, fA2⟩, ⟨nB, cB0, cB1, cB2, fB0, fB1, fB2⟩, ⟨nR, cR0, cR1, cR2, fR0, fR1, fR2⟩, ⟨nG, cG0, cG1, cG2, fG0, fG1, fG2⟩⟩ := hS
        by_cases hly : y ≤ bh
        · go_wp2_with fail
          rw [deed_enter, Oper.upon_enter]
          refine (deed_any op n y _ (by omega) (by omega) (by omega) (by omega)).mono ?_
          rintro e w' ⟨rfl, rfl⟩
          have hbd := raw_bd op n y (by omega) (by omega) (by omega) (by omega)
          cases hcan : canF op y
          · go_wp2_with fail
            go_roundw
            case rel => exact ⟨y + 1, t, by go_num, by omega, by omega, hH.congr (seen_not hcan), fun m hm => hW m ((seen_not hcan m).2 hm), hS0⟩
            case measure => simp [intOf]; omega
          · have hgv : Hid (giveF op n y = rawF op n y) := give_can hcan
            cases hw : isW (rawF op n y)
            · go_wp2_with (first | (go_at_call 55; refine (isWord_any _ _).mono ?_; rintro e w' ⟨rfl, rfl⟩; rw [hgv.out, hw]) | (go_at_call 57; refine (allWords_any _).mono ?_; rintro e w3 ⟨rfl, hb3⟩; obtain ⟨n3, d0, d1, d2, e0, e1, e2⟩ := hS0.sr.later hb3; have hB3 := hS0.bel.trans (hb3.mono hS0.bel.size)))
              refine bodyPost_ret (v := .agg #[.bool true, .int .i64 (-16), .int .i64 15]) (by simp [results, Try.results26, go_sem, n3, d0, d1, d2]) rfl ⟨(true, -16, 15), ?_, RetSp.mk rfl, ?_⟩
              · exact ⟨fun h => by simp [hbo'.out] at h, fun _ _ _ _ => rfl, fun _ hall => by have := hall _ ⟨n, y, hn1, hlt, hy1, hly, hcan, rfl⟩; simp [hw] at this⟩
              · exact ((hB3.setCell (by simp; omega) _).setCell (by simp; omega) _).setCell (by simp; omega) _
            · go_wp2_with (first | (go_at_call 55; refine (isWord_any _ _).mono ?_; rintro e w' ⟨rfl, rfl⟩; rw [hgv.out, hw]))
              refine (stretch1 _ _ _ (rawF op n y) _ _ (by simp [go_sem]) (by simp)).mono ?_
              rintro e w3 ⟨hs, hb3⟩
              rw [addS_eq] at hs
              have hS3 := (hS0.later (Below.alloc (Below.refl _ _) (Nat.le_refl _) _)).later hb3
              have hH3 := (hH.add (rawF op n y)).congr (seen_can hn1 hy1 hly hcan)
              have hW3 : ∀ m, SeenT op al bl bh n (y + 1) m → isW m = true := fun m hm => by
                rcases (seen_can hn1 hy1 hly hcan m).2 hm with h | h
                · exact hW m h
                · rw [h]; exact hw
              clear hH hW hb3 hS0 hB nA cA0 cA1 cA2 fA0 fA1 fA2 nB cB0 cB1 cB2 fB0 fB1 fB2 nR cR0 cR1 cR2 fR0 fR1 fR2 nG cG0 cG1 cG2 fG0 fG1 fG2
              obtain ⟨n3, cG0, cG1, cG2, fG0, fG1, fG2⟩ := hS3.sg
              generalize addS t (rawF op n y) = t3 at hs hH3
              have hS4 := hS3.set (t := t3)
              obtain ⟨a4, l4, u4, hx, rfl⟩ := hs.out
              rw [hx] at hH3 hS4
              clear hS3 hx hs
              go_wp2_with fail
              go_roundw
              case rel => exact ⟨y + 1, _, by go_num, by omega, by omega, hH3, hW3, hS4⟩
              case measure => simp [intOf]; omega
        · go_wp2_with fail
          go_roundw
          case rel => exact ⟨n + 1, t, by go_num, by omega, by omega, hH.congr (seen_row (by omega)), fun m hm => hW m ((seen_row (by omega) m).2 hm), hS0⟩
          case measure => simp [intOf]; omega
    · have hn : n = ah + 1 := by omega
      have hH' := hH.congr (seen_box hn)
      have hd : DoIs op true al ah true bl bh s := by
        have hh := DoIs.of_hull hbo'.out hH'
        split at hh
        · rename_i hx
          simp only [Bool.and_eq_true, Bool.not_eq_true', Bool.and_eq_false_iff] at hx
          rcases hx.2 with h2 | h2
          · have := hW _ ((seen_box hn _).2 (hH'.lo hx.1)); simp [h2] at this
          · have := hW _ ((seen_box hn _).2 (hH'.hi hx.1)); simp [h2] at this
        · exact hh
      clear hn hH hH' hW
      go_wp2_with fail
      refine bodyPost_ret (v := .agg #[.bool s.1, .int .i64 s.2.1, .int .i64 s.2.2]) (by simp [results, Try.results26, go_sem, nR, cR0, cR1, cR2]) rfl ⟨s, hd, rfl, ?_⟩
      exact ((hB.setCell (by simp; omega) _).setCell (by simp; omega) _).setCell (by simp; omega) _

set_option maxHeartbeats 1000000 in
theorem doSp_impl (op : Int) (a : Bool) (al ah : Int) (b : Bool) (bl bh : Int) (w : World) :
    Calls Try.prog 26 #[.int .i64 op, .agg #[.bool a, .int .i64 al, .int .i64 ah], .agg #[.bool b, .int .i64 bl, .int .i64 bh]] w fun e w' => DoRet op a al ah b bl bh w e w' := by
  cases hbo : bothF a al ah b bl bh
  · have hbo' : Hid (bothF a al ah b bl bh = false) := hbo
    go_enter Try.func26, Try.ntmps26
    go_wp2_with fail
    refine (both_impl _ _ _ _ _ _ _).mono ?_
    rintro e w1 ⟨rfl, hr1⟩
    rw [hbo'.out]
    have sr1 : Sp3 w1 (w.heap.size + 1 + 1) false 0 0 := Sp3.later ⟨by go_size, by simp [go_sem], by simp [go_sem], by simp [go_sem], by simp [go_sem], by simp [go_sem], by simp [go_sem]⟩ hr1
    have hB1 : Below w.heap.size w w1 := ((((Below.refl _ _).alloc (by go_size) _).alloc (by go_size) _).alloc (by go_size) _).trans (hr1.mono (by go_size))
    clear hr1
    obtain ⟨nR, cR0, cR1, cR2, fR0, fR1, fR2⟩ := sr1
    go_wp2_with fail
    refine bodyPost_ret (v := .agg #[.bool false, .int .i64 0, .int .i64 0]) (by simp [results, Try.results26, go_sem, nR, cR0, cR1, cR2]) rfl ⟨noSp, ?_, RetSp.mk rfl, ?_⟩
    · exact ⟨fun _ => rfl, fun h => by simp [hbo'.out] at h, fun h => by simp [hbo'.out] at h⟩
    · exact ((hB1.setCell (by simp; omega) _).setCell (by simp; omega) _).setCell (by simp; omega) _
  · obtain ⟨rfl, rfl, _⟩ := both_t hbo
    exact doSp_impl_in op al ah bl bh w hbo

end Go.Proofs.Ytlnfjjciilieeaa
