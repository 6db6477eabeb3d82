/-
  The law FnExactSpanDo: both SpanDo answer the same at every op and every two spans; the walk of the law.
-/
import Derived.Test.YtlnfjjciilieeaaDoT
import Derived.Test.YtlnfjjciilieeaaReg
namespace Go.Proofs.Ytlnfjjciilieeaa
open Go.RowKit
set_option linter.unusedVariables false
set_option linter.unusedSimpArgs false

set_option maxHeartbeats 2000000 in
theorem doSp_spec_no (op : Int) (a : Bool) (al ah : Int) (b : Bool) (bl bh : Int) (w : World) (h : bothF a al ah b bl bh = false ∨ (op < 1 ∨ 6 < op)) :
    Calls Try.prog 27 #[.int .i64 op, .agg #[.bool a, .int .i64 al, .int .i64 ah], .agg #[.bool b, .int .i64 bl, .int .i64 bh]] w fun e w' => DoRet op a al ah b bl bh w e w' := by
  have hD : Hid (DoIs op a al ah b bl bh noSp) := doSp_spec_out_post h
  have hpa := both_parts a al ah b bl bh
  cases hi : inB op 1 6
  · have HI : Hid (inB op 1 6 = false) := hi
    clear hi h hpa
    go_enter Try.func27, Try.ntmps27
    go_wp2_with fail
    refine (l6In_any _ _ _ _).mono ?_
    rintro e w' ⟨rfl, rfl⟩
    rw [HI.out]
    have sr0 : Sp3 (((w.alloc (.cells #[.bool a, .int .i64 al, .int .i64 ah] 24)).alloc (.cells #[.bool b, .int .i64 bl, .int .i64 bh] 24)).alloc (.cells #[.bool false, .int .i64 0, .int .i64 0] 24)) (w.heap.size + 1 + 1) false 0 0 := ⟨by go_size, by simp [go_sem], by simp [go_sem], by simp [go_sem], by simp [go_sem], by simp [go_sem], by simp [go_sem]⟩
    go_wp2_with fail
    refine bodyPost_ret (v := .agg #[.bool false, .int .i64 0, .int .i64 0]) (by simp [results, Try.results27, go_sem]) rfl ⟨noSp, hD.out, RetSp.mk rfl, by go_grown⟩
  · have hop : 1 ≤ op ∧ op ≤ 6 := by simpa [inB] using hi
    have hb : bothF a al ah b bl bh = false := by rcases h with h | h
                                                  · exact h
                                                  · omega
    rw [hpa] at hb
    have HI : Hid (inB op 1 6 = true) := hi
    clear hi h hpa hop
    cases ha : (a && okF a al ah)
    · have HA : Hid ((a && okF a al ah) = false) := ha
      clear ha hb
      go_enter Try.func27, Try.ntmps27
      go_wp2_with fail
      refine (l6In_any _ _ _ _).mono ?_
      rintro e w' ⟨rfl, rfl⟩
      rw [HI.out]
      go_wp2_with fail
      refine (l1Some_any _ _ _ _).mono ?_
      rintro e w1 ⟨rfl, hr1⟩
      have sa1 : Sp3 w1 w.heap.size a al ah := Sp3.later ⟨by go_size, by simp [go_sem], by simp [go_sem], by simp [go_sem], by simp [go_sem], by simp [go_sem], by simp [go_sem]⟩ hr1
      have sb1 : Sp3 w1 (w.heap.size + 1) b bl bh := Sp3.later ⟨by go_size, by simp [go_sem], by simp [go_sem], by simp [go_sem], by simp [go_sem], by simp [go_sem], by simp [go_sem]⟩ hr1
      have sr1 : Sp3 w1 (w.heap.size + 1 + 1) false 0 0 := Sp3.later ⟨by go_size, by simp [go_sem], by simp [go_sem], by simp [go_sem], by simp [go_sem], by simp [go_sem], by simp [go_sem]⟩ hr1
      have hB1 : Below w.heap.size w w1 := ((((Below.refl _ _).alloc (by go_size) _).alloc (by go_size) _).alloc (by go_size) _).trans (hr1.mono (by go_size))
      clear hr1
      rw [HA.out]
      obtain ⟨nR, cR0, cR1, cR2, fR0, fR1, fR2⟩ := sr1
      go_wp2_with fail
      refine bodyPost_ret (v := .agg #[.bool false, .int .i64 0, .int .i64 0]) (by simp [results, Try.results27, go_sem, nR, cR0, cR1, cR2]) rfl ⟨noSp, hD.out, RetSp.mk rfl, ?_⟩
      exact ((hB1.setCell (by simp; omega) _).setCell (by simp; omega) _).setCell (by simp; omega) _
    · have HA : Hid ((a && okF a al ah) = true) := ha
      have HB : Hid ((b && okF b bl bh) = false) := by rw [ha, Bool.true_and] at hb; exact hb
      clear ha hb
      go_enter Try.func27, Try.ntmps27
      go_wp2_with fail
      refine (l6In_any _ _ _ _).mono ?_
      rintro e w' ⟨rfl, rfl⟩
      rw [HI.out]
      go_wp2_with fail
      refine (l1Some_any _ _ _ _).mono ?_
      rintro e w1 ⟨rfl, hr1⟩
      have sa1 : Sp3 w1 w.heap.size a al ah := Sp3.later ⟨by go_size, by simp [go_sem], by simp [go_sem], by simp [go_sem], by simp [go_sem], by simp [go_sem], by simp [go_sem]⟩ hr1
      have sb1 : Sp3 w1 (w.heap.size + 1) b bl bh := Sp3.later ⟨by go_size, by simp [go_sem], by simp [go_sem], by simp [go_sem], by simp [go_sem], by simp [go_sem], by simp [go_sem]⟩ hr1
      have sr1 : Sp3 w1 (w.heap.size + 1 + 1) false 0 0 := Sp3.later ⟨by go_size, by simp [go_sem], by simp [go_sem], by simp [go_sem], by simp [go_sem], by simp [go_sem], by simp [go_sem]⟩ hr1
      have hB1 : Below w.heap.size w w1 := ((((Below.refl _ _).alloc (by go_size) _).alloc (by go_size) _).alloc (by go_size) _).trans (hr1.mono (by go_size))
      clear hr1
      rw [HA.out]
      have sb1' := sb1
      obtain ⟨nB, cB0, cB1, cB2, fB0, fB1, fB2⟩ := sb1
      go_wp2_with fail
      refine (l1Some_any _ _ _ _).mono ?_
      rintro e w2 ⟨rfl, hr2⟩
      have sa2 := sa1.later hr2
      have sb2 := sb1'.later hr2
      have sr2 := sr1.later hr2
      have hB2 := hB1.trans (hr2.mono hB1.size)
      clear sa1 sb1' nB cB0 cB1 cB2 fB0 fB1 fB2 sr1 hB1 hr2
      rw [HB.out]
      obtain ⟨nR, cR0, cR1, cR2, fR0, fR1, fR2⟩ := sr2
      go_wp2_with fail
      refine bodyPost_ret (v := .agg #[.bool false, .int .i64 0, .int .i64 0]) (by simp [results, Try.results27, go_sem, nR, cR0, cR1, cR2]) rfl ⟨noSp, hD.out, RetSp.mk rfl, ?_⟩
      exact ((hB2.setCell (by simp; omega) _).setCell (by simp; omega) _).setCell (by simp; omega) _

set_option maxHeartbeats 2000000 in
theorem doSp_spec_six (al ah bl bh : Int) (w : World) (hbo : bothF true al ah true bl bh = true) :
    Calls Try.prog 27 #[.int .i64 6, .agg #[.bool true, .int .i64 al, .int .i64 ah], .agg #[.bool true, .int .i64 bl, .int .i64 bh]] w fun e w' => DoRet 6 true al ah true bl bh w e w' := by
  have hok : okF true al ah = true ∧ okF true bl bh = true := by simp [bothF] at hbo; exact hbo
  have HK : Hid (okF true al ah = true ∧ okF true bl bh = true) := hok
  have hbo' : Hid (bothF true al ah true bl bh = true) := hbo
  obtain ⟨_, _, ha1, ha2, haa, hb1, hb2, hbb⟩ := both_t hbo
  have hD : Hid (DoIs 6 true al ah true bl bh (sameSp al ah bl bh)) := by
    have hh := DoIs.of_hull hbo (hull_same haa hbb)
    rw [if_neg] at hh
    · exact hh
    · unfold sameSp; repeat' split
      all_goals simp [isW]
  clear hok hbo
  go_enter Try.func27, Try.ntmps27
  go_wp2_with fail
  refine (l6In_any _ _ _ _).mono ?_
  rintro e w' ⟨rfl, rfl⟩
  rw [show inB 6 1 6 = true from rfl]
  go_wp2_with fail
  refine (l1Some_any _ _ _ _).mono ?_
  rintro e w1 ⟨rfl, hr1⟩
  have sa1 : Sp3 w1 w.heap.size true al ah := Sp3.later ⟨by go_size, by simp [go_sem], by simp [go_sem], by simp [go_sem], by simp [go_sem], by simp [go_sem], by simp [go_sem]⟩ hr1
  have sb1 : Sp3 w1 (w.heap.size + 1) true bl bh := Sp3.later ⟨by go_size, by simp [go_sem], by simp [go_sem], by simp [go_sem], by simp [go_sem], by simp [go_sem], by simp [go_sem]⟩ hr1
  have sr1 : Sp3 w1 (w.heap.size + 1 + 1) false 0 0 := Sp3.later ⟨by go_size, by simp [go_sem], by simp [go_sem], by simp [go_sem], by simp [go_sem], by simp [go_sem], by simp [go_sem]⟩ hr1
  have hB1 : Below w.heap.size w w1 := ((((Below.refl _ _).alloc (by go_size) _).alloc (by go_size) _).alloc (by go_size) _).trans (hr1.mono (by go_size))
  clear hr1
  rw [HK.out.1]
  have sb1' := sb1
  obtain ⟨nB, cB0, cB1, cB2, fB0, fB1, fB2⟩ := sb1
  go_wp2_with fail
  refine (l1Some_any _ _ _ _).mono ?_
  rintro e w2 ⟨rfl, hr2⟩
  have sa2 := sa1.later hr2
  have sb2 := sb1'.later hr2
  have sr2 := sr1.later hr2
  have hB2 := hB1.trans (hr2.mono hB1.size)
  clear sa1 sb1' nB cB0 cB1 cB2 fB0 fB1 fB2 sr1 hB1 hr2
  rw [HK.out.2]
  obtain ⟨nA, cA0, cA1, cA2, fA0, fA1, fA2⟩ := sa2
  obtain ⟨nB, cB0, cB1, cB2, fB0, fB1, fB2⟩ := sb2
  go_wp2_with fail
  refine (same_spec _ _ _ _ _ hbo'.out).mono ?_
  rintro e w3 ⟨hs, hr3⟩
  have sr3 := sr2.later hr3
  have hB3 := hB2.trans (hr3.mono hB2.size)
  clear nA cA0 cA1 cA2 fA0 fA1 fA2 nB cB0 cB1 cB2 fB0 fB1 fB2 sr2 hB2 hr3
  generalize sameSp al ah bl bh = s at hs hD
  obtain ⟨a3, l3, u3, hx3, rfl⟩ := hs.out
  rw [hx3.out] at hD
  obtain ⟨nR, cR0, cR1, cR2, fR0, fR1, fR2⟩ := sr3
  go_wp2_with fail
  refine bodyPost_ret (v := .agg #[.bool a3, .int .i64 l3, .int .i64 u3]) (by simp [results, Try.results27, go_sem, nR, cR0, cR1, cR2]) rfl ⟨_, hD.out, RetSp.mk rfl, ?_⟩
  exact ((hB3.setCell (by simp; omega) _).setCell (by simp; omega) _).setCell (by simp; omega) _

theorem doSp_spec (op : Int) (a : Bool) (al ah : Int) (b : Bool) (bl bh : Int) (w : World) :
    Calls Try.prog 27 #[.int .i64 op, .agg #[.bool a, .int .i64 al, .int .i64 ah], .agg #[.bool b, .int .i64 bl, .int .i64 bh]] w fun e w' => DoRet op a al ah b bl bh w e w' := by
  by_cases h : bothF a al ah b bl bh = false ∨ (op < 1 ∨ 6 < op)
  · exact doSp_spec_no op a al ah b bl bh w h
  · have hb : bothF a al ah b bl bh = true := by
      cases hb : bothF a al ah b bl bh
      · exact absurd (.inl hb) h
      · rfl
    have ho : 1 ≤ op ∧ op ≤ 6 := ⟨by have : ¬ (op < 1 ∨ 6 < op) := fun h' => h (.inr h'); omega, by have : ¬ (op < 1 ∨ 6 < op) := fun h' => h (.inr h'); omega⟩
    obtain ⟨rfl, rfl, _⟩ := both_t hb
    by_cases h6 : op = 6
    · subst h6; exact doSp_spec_six al ah bl bh w hb
    · exact doSp_spec_in op al ah bl bh w hb ho.1 (by omega)

/-- both answer the same, whatever the world -/
theorem do_same (op : Int) (a : Bool) (al ah : Int) (b : Bool) (bl bh : Int) : ∃ j1 j2 j3, Hid (∀ x : World, Calls Try.prog 27 #[.int .i64 op, .agg #[.bool a, .int .i64 al, .int .i64 ah], .agg #[.bool b, .int .i64 bl, .int .i64 bh]] x fun e w' => e = .returned (.agg #[.bool j1, .int .i64 j2, .int .i64 j3]) ∧ Below x.heap.size x w') ∧ Hid (∀ x : World, Calls Try.prog 26 #[.int .i64 op, .agg #[.bool a, .int .i64 al, .int .i64 ah], .agg #[.bool b, .int .i64 bl, .int .i64 bh]] x fun e w' => e = .returned (.agg #[.bool j1, .int .i64 j2, .int .i64 j3]) ∧ Below x.heap.size x w') := by
  by_cases h : ∃ s, DoIs op a al ah b bl bh s
  · obtain ⟨s, hs⟩ := h
    refine ⟨s.1, s.2.1, s.2.2, fun x => (doSp_spec op a al ah b bl bh x).mono ?_, fun x => (doSp_impl op a al ah b bl bh x).mono ?_⟩
    · rintro e w' ⟨t, ht, he, hb⟩; rw [ht.uniq hs] at he; exact ⟨he, hb⟩
    · rintro e w' ⟨t, ht, he, hb⟩; rw [ht.uniq hs] at he; exact ⟨he, hb⟩
  · refine ⟨true, 0, 0, fun x => (doSp_spec op a al ah b bl bh x).mono ?_, fun x => (doSp_impl op a al ah b bl bh x).mono ?_⟩
    · rintro e w' ⟨t, ht, _⟩; exact absurd ⟨t, ht⟩ h
    · rintro e w' ⟨t, ht, _⟩; exact absurd ⟨t, ht⟩ h

end Go.Proofs.Ytlnfjjciilieeaa
