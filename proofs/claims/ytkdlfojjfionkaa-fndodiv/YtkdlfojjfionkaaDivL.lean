/-
  The walk of the law FnDoDiv.
-/
import Derived.Test.YtkdlfojjfionkaaRingL
namespace Go.Proofs.Ytkdlfojjfionkaa
open Go.RowKit
set_option linter.unusedVariables false
set_option linter.unusedSimpArgs false

theorem div_all : ∀ i j : Fin 32, ((j.val : Int) - 16 ≠ 0) →
    (let p : Int := (i.val : Int) - 16
     let q : Int := (j.val : Int) - 16
     let r := wrapF (rawF 2 p (wrapF (rawF 3 (wrapF (rawF 4 p q)) q)))
     ((r < q ∨ r < -q) ∧ (-r < q ∨ -r < -q)) ∧ 0 ≤ r * p) := by decide +kernel
theorem div_ok (p q : Int) (p0 : -16 ≤ p) (p1 : p ≤ 15) (q0 : -16 ≤ q) (q1 : q ≤ 15) (hq : q ≠ 0) :
    ((wrapF (rawF 2 p (wrapF (rawF 3 (wrapF (rawF 4 p q)) q))) < q ∨ wrapF (rawF 2 p (wrapF (rawF 3 (wrapF (rawF 4 p q)) q))) < -q) ∧ (-wrapF (rawF 2 p (wrapF (rawF 3 (wrapF (rawF 4 p q)) q))) < q ∨ -wrapF (rawF 2 p (wrapF (rawF 3 (wrapF (rawF 4 p q)) q))) < -q)) ∧ 0 ≤ wrapF (rawF 2 p (wrapF (rawF 3 (wrapF (rawF 4 p q)) q))) * p := by
  have h := div_all ⟨(p + 16).toNat, by omega⟩ ⟨(q + 16).toNat, by omega⟩
  have ep : (((p + 16).toNat : Nat) : Int) - 16 = p := by omega
  have eq : (((q + 16).toNat : Nat) : Int) - 16 = q := by omega
  simp only [ep, eq] at h
  exact h hq
theorem of_yes {p : Int} {a : Bool} {l u : Int} (hp : isW p = true) (h : ofF p = (a, l, u)) : true = a ∧ p = l ∧ p = u := by
  rw [ofF, if_pos hp] at h; simpa using h
theorem of_none {p : Int} {a : Bool} {l u : Int} (hp : isW p = false) (h : ofF p = (a, l, u)) : false = a ∧ 0 = l ∧ 0 = u := by
  rw [ofF, if_neg (by simp [hp])] at h; simpa [noSp] using h

set_option maxRecDepth 100000 in
set_option maxHeartbeats 4000000 in
theorem doDiv_walk (a : Option Addr) (len cap : Nat) (zs : List Int) (w : World) (h : IsRow w a len cap zs) :
    Calls Try.prog 14 #[.slice a len cap] w fun e w' => e = .returned (.bool true) ∧ Below w.heap.size w w' := by
  have hm := row_len h
  unfold maxLen at hm
  by_cases hl : (1048576 : Int) < (len : Int)
  · clear h
    go_enter Try.func14, Try.ntmps14
    go_wp2
    go_ret
    exact ⟨rfl, by go_grown⟩
  · go_enter Try.func14, Try.ntmps14
    go_wp2_with fail
    refine (drawNumDo_any a len cap zs _ h).mono ?_
    rintro e x ⟨op, p, q, rfl, op0, op1, p0, p1, q0, q1, hb⟩
    go_wp2_with fail
    refine (do_impl op p q _).mono ?_
    rintro e x2 ⟨rfl, hb2⟩
    have hB2 := hb.trans (hb2.mono hb.size)
    clear hb hb2
    obtain ⟨d, dk, Hd, Hk⟩ : ∃ d dk, Hid (doF op p q = d) ∧ Hid (doOk op p q = dk) := ⟨_, _, rfl, rfl⟩
    rw [Hd.out, Hk.out]
    go_wp2_with fail
    refine (do_spec op p q _).mono ?_
    rintro e x3 ⟨rfl, rfl⟩
    rw [Hd.out, Hk.out]
    go_wp2_with fail
    cases hp : isW p
    · refine (of_spec p _).mono ?_
      rintro e z1 ⟨hs1, f1⟩
      obtain ⟨a1, l1, u1, hx1, rfl⟩ := hs1.out
      obtain ⟨e1, e1', e1''⟩ := of_none hp hx1
      subst e1 e1' e1''
      clear hx1 hs1
      go_wp2_with fail
      refine (of_spec 99 _).mono ?_
      rintro e z2 ⟨hs2, f2⟩
      obtain ⟨a2, l2, u2, hx2, rfl⟩ := hs2.out
      obtain ⟨e2, e2', e2''⟩ := of_none (show isW 99 = false from rfl) hx2
      subst e2 e2' e2''
      clear hx2 hs2
      go_wp2
      go_ret
      exact ⟨rfl, (hB2.trans (f1.mono hB2.size)).trans (f2.mono (by have := hB2.size; have := f1.size; omega))⟩
    · cases hq : isW q
      · refine (of_spec p _).mono ?_
        rintro e z1 ⟨hs1, f1⟩
        obtain ⟨a1, l1, u1, hx1, rfl⟩ := hs1.out
        obtain ⟨e1, e1', e1''⟩ := of_yes hp hx1
        subst e1 e1' e1''
        clear hx1 hs1
        go_wp2_with fail
        refine (of_spec 99 _).mono ?_
        rintro e z2 ⟨hs2, f2⟩
        obtain ⟨a2, l2, u2, hx2, rfl⟩ := hs2.out
        obtain ⟨e2, e2', e2''⟩ := of_none (show isW 99 = false from rfl) hx2
        subst e2 e2' e2''
        clear hx2 hs2
        go_wp2_with fail
        refine (of_spec q _).mono ?_
        rintro e z3 ⟨hs3, f3⟩
        obtain ⟨a3, l3, u3, hx3, rfl⟩ := hs3.out
        obtain ⟨e3, e3', e3''⟩ := of_none hq hx3
        subst e3 e3' e3''
        clear hx3 hs3
        go_wp2_with fail
        refine (of_spec 99 _).mono ?_
        rintro e z4 ⟨hs4, f4⟩
        obtain ⟨a4, l4, u4, hx4, rfl⟩ := hs4.out
        obtain ⟨e4, e4', e4''⟩ := of_none (show isW 99 = false from rfl) hx4
        subst e4 e4' e4''
        clear hx4 hs4
        go_wp2
        go_ret
        have d1 := hB2.trans (f1.mono hB2.size)
        have d2 := d1.trans (f2.mono d1.size)
        have d3 := d2.trans (f3.mono d2.size)
        have d4 := d3.trans (f4.mono d3.size)
        exact ⟨rfl, d4⟩
      · refine (of_spec p _).mono ?_
        rintro e z1 ⟨hs1, f1⟩
        obtain ⟨a1, l1, u1, hx1, rfl⟩ := hs1.out
        obtain ⟨e1, e1', e1''⟩ := of_yes hp hx1
        subst e1 e1' e1''
        clear hx1 hs1
        go_wp2_with fail
        refine (of_spec 99 _).mono ?_
        rintro e z2 ⟨hs2, f2⟩
        obtain ⟨a2, l2, u2, hx2, rfl⟩ := hs2.out
        obtain ⟨e2, e2', e2''⟩ := of_none (show isW 99 = false from rfl) hx2
        subst e2 e2' e2''
        clear hx2 hs2
        go_wp2_with fail
        refine (of_spec q _).mono ?_
        rintro e z3 ⟨hs3, f3⟩
        obtain ⟨a3, l3, u3, hx3, rfl⟩ := hs3.out
        obtain ⟨e3, e3', e3''⟩ := of_yes hq hx3
        subst e3 e3' e3''
        clear hx3 hs3
        go_wp2_with fail
        refine (of_spec 99 _).mono ?_
        rintro e z4 ⟨hs4, f4⟩
        obtain ⟨a4, l4, u4, hx4, rfl⟩ := hs4.out
        obtain ⟨e4, e4', e4''⟩ := of_none (show isW 99 = false from rfl) hx4
        subst e4 e4' e4''
        clear hx4 hs4
        go_wp2_with fail
        have d1 := hB2.trans (f1.mono hB2.size)
        have d2 := d1.trans (f2.mono d1.size)
        have d3 := d2.trans (f3.mono d2.size)
        have d4 := d3.trans (f4.mono d3.size)
        clear f1 f2 f3 f4 d1 d2 d3
        obtain ⟨w1, w2⟩ := isW_t hp
        obtain ⟨w3, w4⟩ := isW_t hq
        by_cases h0 : q = 0
        · subst h0
          refine (do_impl 4 p 0 _).mono ?_
          rintro e y1 ⟨rfl, c1⟩
          have k1 : doOk 4 p 0 = false := by simp [doOk, canF]
          have k2 : doF 4 p 0 = 0 := by simp [doF, k1]
          rw [k1, k2]
          go_wp2
          go_ret
          exact ⟨rfl, d4.trans (c1.mono d4.size)⟩
        · have h0b : (q == 0) = false := by simp [h0]
          refine (do_impl 4 p q _).mono ?_
          rintro e y1 ⟨rfl, c1⟩
          have k1 : doOk 4 p q = true := by simp [doOk, canF, hp, hq, h0]
          obtain ⟨v1, g1, v10, v11⟩ : ∃ v, Hid (doF 4 p q = v) ∧ -16 ≤ v ∧ v ≤ 15 := ⟨_, rfl, by simp only [doF, k1]; exact (wrapF_bd _).1, by simp only [doF, k1]; exact (wrapF_bd _).2⟩
          have g1' : Hid (v1 = wrapF (rawF 4 p q)) := g1.out.symm.trans (by simp [doF, k1])
          rw [k1, g1.out]
          clear hp hq
          go_wp2_with fail
          refine (do_w 3 v1 q _ (.inr (.inr rfl)) v10 v11 w3 w4).mono ?_
          rintro e y2 ⟨v2, rfl, g2, v20, v21, c2⟩
          go_wp2_with fail
          refine (do_w 2 p v2 _ (.inr (.inl rfl)) w1 w2 v20 v21).mono ?_
          rintro e y3 ⟨v3, rfl, g3, v30, v31, c3⟩
          have hd := div_ok p q w1 w2 w3 w4 h0
          rw [← g1'.out, ← g2.out, ← g3.out] at hd
          have hbd := raw_bd 3 v3 p v30 v31 w1 w2
          simp [rawF] at hbd
          obtain ⟨⟨hd1, hd2⟩, hd3⟩ := hd
          have m1 := d4.trans (c1.mono d4.size)
          have m2 := m1.trans (c2.mono m1.size)
          have m3 := m2.trans (c3.mono m2.size)
          clear m1 m2 c1 c2 c3 d4 hB2
          go_wp2
          all_goals (go_ret; exact ⟨rfl, m3⟩)
end Go.Proofs.Ytkdlfojjfionkaa
