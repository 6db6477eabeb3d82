import Derived.Test.YtbjegekfghihkaaB2
/-
  The contracts of the laws' own helpers: two programs are the same (eqProc, eqProcS).
-/
namespace Go.Proofs.Ytbjegekfghihkaa
open Go.RowKit
set_option linter.unusedVariables false
set_option linter.unusedSimpArgs false

set_option maxHeartbeats 1000000 in
theorem eqProc_same (x : World) (B C : Nat) (v u : Value) (c : List I4) (h : CodeAt x B v c) (h' : CodeAt x C u c) :
    Calls Try.prog 37 #[.agg #[v], .agg #[u]] x fun e y => e = .returned (.bool true) ∧ Below x.heap.size x y := by
  obtain ⟨p, cap, rfl, _⟩ := id h
  obtain ⟨p', cap', rfl, _⟩ := id h'
  go_enter Try.func37, Try.ntmps37
  go_wp2_with fail
  have hbW : Below x.heap.size x ((x.alloc (.cells #[.slice p c.length cap] 68)).alloc (.cells #[.slice p' c.length cap'] 68)) := by go_grown
  refine (eqInsS_same _ B C _ _ c (h.later hbW) (h'.later hbW)).mono ?_
  rintro e y ⟨rfl, hb⟩
  have hB : Below x.heap.size x y := hbW.trans (hb.mono (by simp; omega))
  clear hbW hb h h'
  go_wp2_with fail
  go_ret
  exact ⟨rfl, hB⟩

theorem keep2 {w y : World} {g o g' o' : Nat} {u v : Value} (h : w.cell? ⟨g, o, none⟩ = some u ∧ w.cell? ⟨g', o', none⟩ = some v) (hb : Below w.heap.size w y) (hg : g < w.heap.size) (hg' : g' < w.heap.size) : y.cell? ⟨g, o, none⟩ = some u ∧ y.cell? ⟨g', o', none⟩ = some v :=
  ⟨(hb.cell (p := ⟨g, o, none⟩) hg).trans h.1, (hb.cell (p := ⟨g', o', none⟩) hg').trans h.2⟩

set_option maxHeartbeats 1000000 in
theorem eqProcS_same (x : World) (B C : Nat) (v u : Value) (P : List (List I4)) (h : ProgAt x B v P) (h' : ProgAt x C u P) :
    Calls Try.prog 13 #[v, u] x fun e y => e = .returned (.bool true) ∧ Below x.heap.size x y := by
  obtain ⟨p, cap, rfl, hm, hc⟩ := h
  obtain ⟨p', cap', rfl, _, hc'⟩ := h'
  generalize hL : P.length = n at *
  unfold maxLen at hm
  have hni : (n : Int) ≤ 9223372036854775807 := by omega
  clear hL hm
  go_enter Try.func13, Try.ntmps13
  go_wp2_with fail
  go_loopw [5] (fun t y => ∃ k : Nat, k ≤ n ∧ t = .int .i64 k ∧ Below x.heap.size x y) (fun t _ => n - (intOf t).toNat)
  case atStart => exact ⟨0, by omega, rfl, Below.refl _ _⟩
  case round =>
    obtain ⟨k, hk, rfl, hB⟩ := hrel
    by_cases hlt : k < n
    · rcases hc with h0 | ⟨g, o, rfl, hBg, hgx, hins⟩
      · omega
      rcases hc' with h0 | ⟨g', o', rfl, hBg', hgx', hins'⟩
      · omega
      have hki : (k : Int) < (n : Int) := by omega
      obtain ⟨u1, cu1, hcu1⟩ := hins k hlt
      obtain ⟨u2, cu2, hcu2⟩ := hins' k hlt
      obtain ⟨p1, c1, hu1, _⟩ := id hcu1
      obtain ⟨p2, c2, hu2, _⟩ := id hcu2
      subst hu1 hu2
      have d0 := (hB.cell (p := ⟨g, o + k, none⟩) hgx).trans cu1
      have e0 := (hB.cell (p := ⟨g', o' + k, none⟩) hgx').trans cu2
      have HC1 : Hid (CodeAt wr B (.slice p1 (P.getD k []).length c1) (P.getD k [])) := hcu1.later hB
      have HC2 : Hid (CodeAt wr C (.slice p2 (P.getD k []).length c2) (P.getD k [])) := hcu2.later hB
      clear cu1 cu2 hcu1 hcu2 hins hins'
      generalize P.getD k [] = Q at *
      have hgw : g < wr.heap.size := Nat.lt_of_lt_of_le hgx hB.size
      have hgw' : g' < wr.heap.size := Nat.lt_of_lt_of_le hgx' hB.size
      go_wp2_with fail
      go_region_held3 (fun z => z.cell? ⟨g, o + k, none⟩ = some (.slice p1 Q.length c1) ∧ z.cell? ⟨g', o' + k, none⟩ = some (.slice p2 Q.length c2)) (first | (with_reducible assumption) | exact ⟨d0, e0⟩ | fail) ((go_at_call 37; refine (eqProc_same _ B C _ _ Q (HC1.out.later (Below.drew (Below.refl _ _))) (HC2.out.later (Below.drew (Below.refl _ _)))).mono ?_; rintro e w2 ⟨rfl, hb2⟩; have hS2 := keep2 (w := wr.drew) ⟨d0, e0⟩ hb2 hgw hgw'))
      have hB2 : Below x.heap.size x w2 := hB.trans ((Below.drew (Below.refl _ _)).trans (hb2.mono (by simp)) |>.mono hB.size)
      go_wp2_with fail
      go_roundw
      case rel => exact ⟨k + 1, by omega, by go_num, hB2⟩
      case measure => simp [intOf]; omega
    · obtain rfl : k = n := by omega
      have hki : ¬ (k : Int) < (k : Int) := by omega
      go_wp2_with fail
      go_ret
      exact ⟨rfl, hB⟩

end Go.Proofs.Ytbjegekfghihkaa

/-
  Whether an instruction, and a program, is ok: the plain functions, and the contract of the model's l2Ins.
-/
namespace Go.Proofs.Ytbjegekfghihkaa
open Go.RowKit
set_option linter.unusedVariables false
set_option linter.unusedSimpArgs false

def inI (n lo hi : Int) : Bool := decide (lo ≤ n ∧ n ≤ hi)
def insOkF (i : I4) (size procs : Int) : Bool :=
  let a := inI i.2.1 0 2
  let b := inI i.2.2.1 0 2
  if i.1 = 1 then a && inI i.2.2.1 (-16) 15 && decide (i.2.2.2 = 0)
  else if i.1 = 3 then a && inI i.2.2.1 0 15 && decide (i.2.2.2 = 0)
  else if i.1 = 2 ∨ i.1 = 11 ∨ i.1 = 12 then a && b && decide (i.2.2.2 = 0)
  else if i.1 = 4 then a && b && inI i.2.2.2 1 6
  else if i.1 = 5 then decide (i.2.1 = 0) && decide (i.2.2.1 = 0) && inI i.2.2.2 0 size
  else if i.1 = 6 ∨ i.1 = 7 then a && b && inI i.2.2.2 0 size
  else if i.1 = 8 then a && inI i.2.2.1 0 (procs - 1) && inI i.2.2.2 0 2
  else if i.1 = 9 ∨ i.1 = 10 then a && decide (i.2.2.1 = 0) && decide (i.2.2.2 = 0)
  else false
theorem retBool {a b : Bool} (h : a = b) : Ending.returned (.bool a) = .returned (.bool b) := by rw [h]

theorem l6In_e (n lo hi : Int) (w : World) : Calls Try.prog 50 #[.int .i64 n, .int .i64 lo, .int .i64 hi] w fun e w' => e = .returned (.bool (inI n lo hi)) ∧ w' = w := by
  by_cases h1 : lo ≤ n
  · by_cases h2 : n ≤ hi
    · go_enter Try.func50, Try.ntmps50
      go_wp2
      go_ret
      exact ⟨retBool (by simp [inI]; omega), rfl⟩
    · go_enter Try.func50, Try.ntmps50
      go_wp2
      go_ret
      exact ⟨retBool (by simp [inI]; omega), rfl⟩
  · go_enter Try.func50, Try.ntmps50
    go_wp2
    go_ret
    exact ⟨retBool (by simp [inI]; omega), rfl⟩
theorem l1Word_e (n : Int) (w : World) : Calls Try.prog 72 #[.int .i64 n] w fun e w' => e = .returned (.bool (inI n (-16) 15)) ∧ w' = w := by
  go_enter Try.func72, Try.ntmps72
  go_wp2_with (go_at_call 50; refine (l6In_e _ _ _ _).mono ?_; rintro e w' ⟨rfl, rfl⟩)
  go_ret
  exact ⟨retBool rfl, rfl⟩

set_option maxHeartbeats 4000000 in
theorem l2Ins_any (i : I4) (size procs : Int) (w : World) (h1 : 0 ≤ procs) (h2 : procs ≤ 1048576) :
    Calls Try.prog 71 #[aggI i, .int .i64 size, .int .i64 procs] w fun e w' => e = .returned (.bool (insOkF i size procs)) ∧ Below w.heap.size w w' := by
  obtain ⟨K, a, b, c⟩ := i
  unfold aggI
  simp only
  by_cases hK : 1 ≤ K ∧ K ≤ 12
  · obtain rfl | rfl | rfl | rfl | rfl | rfl | rfl | rfl | rfl | rfl | rfl | rfl : K = 1 ∨ K = 2 ∨ K = 3 ∨ K = 4 ∨ K = 5 ∨ K = 6 ∨ K = 7 ∨ K = 8 ∨ K = 9 ∨ K = 10 ∨ K = 11 ∨ K = 12 := by omega
    all_goals clear hK
    · have hr : insOkF (1, a, b, c) size procs = (inI a 0 2 && inI b (-16) 15 && decide (c = 0)) := by simp [insOkF]
      rw [hr]
      clear hr
      cases g1 : inI a 0 2
      · simp only [Bool.false_and]
        go_enter Try.func71, Try.ntmps71
        go_wp2_with (first | (go_at_call 50; refine (l6In_e _ _ _ _).mono ?_; rintro e w' ⟨rfl, rfl⟩) | (go_at_call 72; refine (l1Word_e _ _).mono ?_; rintro e w' ⟨rfl, rfl⟩))
        go_ret
        exact ⟨retBool (by first | rfl | (simp; done) | (simp [Bool.eq_iff_iff]; done)), by go_grown⟩
      · simp only [Bool.true_and]
        cases g2 : inI b (-16) 15
        · simp only [Bool.false_and]
          go_enter Try.func71, Try.ntmps71
          go_wp2_with (first | (go_at_call 50; refine (l6In_e _ _ _ _).mono ?_; rintro e w' ⟨rfl, rfl⟩) | (go_at_call 72; refine (l1Word_e _ _).mono ?_; rintro e w' ⟨rfl, rfl⟩))
          go_ret
          exact ⟨retBool (by first | rfl | (simp; done) | (simp [Bool.eq_iff_iff]; done)), by go_grown⟩
        · simp only [Bool.true_and]
          go_enter Try.func71, Try.ntmps71
          go_wp2_with (first | (go_at_call 50; refine (l6In_e _ _ _ _).mono ?_; rintro e w' ⟨rfl, rfl⟩) | (go_at_call 72; refine (l1Word_e _ _).mono ?_; rintro e w' ⟨rfl, rfl⟩))
          go_ret
          exact ⟨retBool (by first | rfl | (simp; done) | (simp [Bool.eq_iff_iff]; done)), by go_grown⟩
    · have hr : insOkF (2, a, b, c) size procs = (inI a 0 2 && inI b 0 2 && decide (c = 0)) := by simp [insOkF]
      rw [hr]
      clear hr
      cases g1 : inI a 0 2
      · simp only [Bool.false_and]
        go_enter Try.func71, Try.ntmps71
        go_wp2_with (first | (go_at_call 50; refine (l6In_e _ _ _ _).mono ?_; rintro e w' ⟨rfl, rfl⟩) | (go_at_call 72; refine (l1Word_e _ _).mono ?_; rintro e w' ⟨rfl, rfl⟩))
        go_ret
        exact ⟨retBool (by first | rfl | (simp; done) | (simp [Bool.eq_iff_iff]; done)), by go_grown⟩
      · simp only [Bool.true_and]
        cases g2 : inI b 0 2
        · simp only [Bool.false_and]
          go_enter Try.func71, Try.ntmps71
          go_wp2_with (first | (go_at_call 50; refine (l6In_e _ _ _ _).mono ?_; rintro e w' ⟨rfl, rfl⟩) | (go_at_call 72; refine (l1Word_e _ _).mono ?_; rintro e w' ⟨rfl, rfl⟩))
          go_ret
          exact ⟨retBool (by first | rfl | (simp; done) | (simp [Bool.eq_iff_iff]; done)), by go_grown⟩
        · simp only [Bool.true_and]
          go_enter Try.func71, Try.ntmps71
          go_wp2_with (first | (go_at_call 50; refine (l6In_e _ _ _ _).mono ?_; rintro e w' ⟨rfl, rfl⟩) | (go_at_call 72; refine (l1Word_e _ _).mono ?_; rintro e w' ⟨rfl, rfl⟩))
          go_ret
          exact ⟨retBool (by first | rfl | (simp; done) | (simp [Bool.eq_iff_iff]; done)), by go_grown⟩
    · have hr : insOkF (3, a, b, c) size procs = (inI a 0 2 && inI b 0 15 && decide (c = 0)) := by simp [insOkF]
      rw [hr]
      clear hr
      cases g1 : inI a 0 2
      · simp only [Bool.false_and]
        go_enter Try.func71, Try.ntmps71
        go_wp2_with (first | (go_at_call 50; refine (l6In_e _ _ _ _).mono ?_; rintro e w' ⟨rfl, rfl⟩) | (go_at_call 72; refine (l1Word_e _ _).mono ?_; rintro e w' ⟨rfl, rfl⟩))
        go_ret
        exact ⟨retBool (by first | rfl | (simp; done) | (simp [Bool.eq_iff_iff]; done)), by go_grown⟩
      · simp only [Bool.true_and]
        cases g2 : inI b 0 15
        · simp only [Bool.false_and]
          go_enter Try.func71, Try.ntmps71
          go_wp2_with (first | (go_at_call 50; refine (l6In_e _ _ _ _).mono ?_; rintro e w' ⟨rfl, rfl⟩) | (go_at_call 72; refine (l1Word_e _ _).mono ?_; rintro e w' ⟨rfl, rfl⟩))
          go_ret
          exact ⟨retBool (by first | rfl | (simp; done) | (simp [Bool.eq_iff_iff]; done)), by go_grown⟩
        · simp only [Bool.true_and]
          go_enter Try.func71, Try.ntmps71
          go_wp2_with (first | (go_at_call 50; refine (l6In_e _ _ _ _).mono ?_; rintro e w' ⟨rfl, rfl⟩) | (go_at_call 72; refine (l1Word_e _ _).mono ?_; rintro e w' ⟨rfl, rfl⟩))
          go_ret
          exact ⟨retBool (by first | rfl | (simp; done) | (simp [Bool.eq_iff_iff]; done)), by go_grown⟩
    · have hr : insOkF (4, a, b, c) size procs = (inI a 0 2 && inI b 0 2 && inI c 1 6) := by simp [insOkF]
      rw [hr]
      clear hr
      cases g1 : inI a 0 2
      · simp only [Bool.false_and]
        go_enter Try.func71, Try.ntmps71
        go_wp2_with (first | (go_at_call 50; refine (l6In_e _ _ _ _).mono ?_; rintro e w' ⟨rfl, rfl⟩) | (go_at_call 72; refine (l1Word_e _ _).mono ?_; rintro e w' ⟨rfl, rfl⟩))
        go_ret
        exact ⟨retBool (by first | rfl | (simp; done) | (simp [Bool.eq_iff_iff]; done)), by go_grown⟩
      · simp only [Bool.true_and]
        cases g2 : inI b 0 2
        · simp only [Bool.false_and]
          go_enter Try.func71, Try.ntmps71
          go_wp2_with (first | (go_at_call 50; refine (l6In_e _ _ _ _).mono ?_; rintro e w' ⟨rfl, rfl⟩) | (go_at_call 72; refine (l1Word_e _ _).mono ?_; rintro e w' ⟨rfl, rfl⟩))
          go_ret
          exact ⟨retBool (by first | rfl | (simp; done) | (simp [Bool.eq_iff_iff]; done)), by go_grown⟩
        · simp only [Bool.true_and]
          go_enter Try.func71, Try.ntmps71
          go_wp2_with (first | (go_at_call 50; refine (l6In_e _ _ _ _).mono ?_; rintro e w' ⟨rfl, rfl⟩) | (go_at_call 72; refine (l1Word_e _ _).mono ?_; rintro e w' ⟨rfl, rfl⟩))
          go_ret
          exact ⟨retBool (by first | rfl | (simp; done) | (simp [Bool.eq_iff_iff]; done)), by go_grown⟩
    · have hr : insOkF (5, a, b, c) size procs = (decide (a = 0) && decide (b = 0) && inI c 0 size) := by simp [insOkF]
      rw [hr]
      clear hr
      cases g1 : decide (a = 0)
      · have g1' : (a == 0) = false := by simpa using g1
        simp only [Bool.false_and]
        clear g1
        go_enter Try.func71, Try.ntmps71
        go_wp2_with (first | (go_at_call 50; refine (l6In_e _ _ _ _).mono ?_; rintro e w' ⟨rfl, rfl⟩) | (go_at_call 72; refine (l1Word_e _ _).mono ?_; rintro e w' ⟨rfl, rfl⟩))
        go_ret
        exact ⟨retBool (by first | rfl | (simp; done) | (simp [Bool.eq_iff_iff]; done)), by go_grown⟩
      · have g1' : (a == 0) = true := by simpa using g1
        simp only [Bool.true_and]
        clear g1
        cases g2 : decide (b = 0)
        · have g2' : (b == 0) = false := by simpa using g2
          simp only [Bool.false_and]
          clear g2
          go_enter Try.func71, Try.ntmps71
          go_wp2_with (first | (go_at_call 50; refine (l6In_e _ _ _ _).mono ?_; rintro e w' ⟨rfl, rfl⟩) | (go_at_call 72; refine (l1Word_e _ _).mono ?_; rintro e w' ⟨rfl, rfl⟩))
          go_ret
          exact ⟨retBool (by first | rfl | (simp; done) | (simp [Bool.eq_iff_iff]; done)), by go_grown⟩
        · have g2' : (b == 0) = true := by simpa using g2
          simp only [Bool.true_and]
          clear g2
          go_enter Try.func71, Try.ntmps71
          go_wp2_with (first | (go_at_call 50; refine (l6In_e _ _ _ _).mono ?_; rintro e w' ⟨rfl, rfl⟩) | (go_at_call 72; refine (l1Word_e _ _).mono ?_; rintro e w' ⟨rfl, rfl⟩))
          go_ret
          exact ⟨retBool (by first | rfl | (simp; done) | (simp [Bool.eq_iff_iff]; done)), by go_grown⟩
    · have hr : insOkF (6, a, b, c) size procs = (inI a 0 2 && inI b 0 2 && inI c 0 size) := by simp [insOkF]
      rw [hr]
      clear hr
      cases g1 : inI a 0 2
      · simp only [Bool.false_and]
        go_enter Try.func71, Try.ntmps71
        go_wp2_with (first | (go_at_call 50; refine (l6In_e _ _ _ _).mono ?_; rintro e w' ⟨rfl, rfl⟩) | (go_at_call 72; refine (l1Word_e _ _).mono ?_; rintro e w' ⟨rfl, rfl⟩))
        go_ret
        exact ⟨retBool (by first | rfl | (simp; done) | (simp [Bool.eq_iff_iff]; done)), by go_grown⟩
      · simp only [Bool.true_and]
        cases g2 : inI b 0 2
        · simp only [Bool.false_and]
          go_enter Try.func71, Try.ntmps71
          go_wp2_with (first | (go_at_call 50; refine (l6In_e _ _ _ _).mono ?_; rintro e w' ⟨rfl, rfl⟩) | (go_at_call 72; refine (l1Word_e _ _).mono ?_; rintro e w' ⟨rfl, rfl⟩))
          go_ret
          exact ⟨retBool (by first | rfl | (simp; done) | (simp [Bool.eq_iff_iff]; done)), by go_grown⟩
        · simp only [Bool.true_and]
          go_enter Try.func71, Try.ntmps71
          go_wp2_with (first | (go_at_call 50; refine (l6In_e _ _ _ _).mono ?_; rintro e w' ⟨rfl, rfl⟩) | (go_at_call 72; refine (l1Word_e _ _).mono ?_; rintro e w' ⟨rfl, rfl⟩))
          go_ret
          exact ⟨retBool (by first | rfl | (simp; done) | (simp [Bool.eq_iff_iff]; done)), by go_grown⟩
    · have hr : insOkF (7, a, b, c) size procs = (inI a 0 2 && inI b 0 2 && inI c 0 size) := by simp [insOkF]
      rw [hr]
      clear hr
      cases g1 : inI a 0 2
      · simp only [Bool.false_and]
        go_enter Try.func71, Try.ntmps71
        go_wp2_with (first | (go_at_call 50; refine (l6In_e _ _ _ _).mono ?_; rintro e w' ⟨rfl, rfl⟩) | (go_at_call 72; refine (l1Word_e _ _).mono ?_; rintro e w' ⟨rfl, rfl⟩))
        go_ret
        exact ⟨retBool (by first | rfl | (simp; done) | (simp [Bool.eq_iff_iff]; done)), by go_grown⟩
      · simp only [Bool.true_and]
        cases g2 : inI b 0 2
        · simp only [Bool.false_and]
          go_enter Try.func71, Try.ntmps71
          go_wp2_with (first | (go_at_call 50; refine (l6In_e _ _ _ _).mono ?_; rintro e w' ⟨rfl, rfl⟩) | (go_at_call 72; refine (l1Word_e _ _).mono ?_; rintro e w' ⟨rfl, rfl⟩))
          go_ret
          exact ⟨retBool (by first | rfl | (simp; done) | (simp [Bool.eq_iff_iff]; done)), by go_grown⟩
        · simp only [Bool.true_and]
          go_enter Try.func71, Try.ntmps71
          go_wp2_with (first | (go_at_call 50; refine (l6In_e _ _ _ _).mono ?_; rintro e w' ⟨rfl, rfl⟩) | (go_at_call 72; refine (l1Word_e _ _).mono ?_; rintro e w' ⟨rfl, rfl⟩))
          go_ret
          exact ⟨retBool (by first | rfl | (simp; done) | (simp [Bool.eq_iff_iff]; done)), by go_grown⟩
    · have hr : insOkF (8, a, b, c) size procs = (inI a 0 2 && inI b 0 (procs - 1) && inI c 0 2) := by simp [insOkF]
      rw [hr]
      clear hr
      cases g1 : inI a 0 2
      · simp only [Bool.false_and]
        go_enter Try.func71, Try.ntmps71
        go_wp2_with (first | (go_at_call 50; refine (l6In_e _ _ _ _).mono ?_; rintro e w' ⟨rfl, rfl⟩) | (go_at_call 72; refine (l1Word_e _ _).mono ?_; rintro e w' ⟨rfl, rfl⟩))
        go_ret
        exact ⟨retBool (by first | rfl | (simp; done) | (simp [Bool.eq_iff_iff]; done)), by go_grown⟩
      · simp only [Bool.true_and]
        cases g2 : inI b 0 (procs - 1)
        · simp only [Bool.false_and]
          go_enter Try.func71, Try.ntmps71
          go_wp2_with (first | (go_at_call 50; refine (l6In_e _ _ _ _).mono ?_; rintro e w' ⟨rfl, rfl⟩) | (go_at_call 72; refine (l1Word_e _ _).mono ?_; rintro e w' ⟨rfl, rfl⟩))
          go_ret
          exact ⟨retBool (by first | rfl | (simp; done) | (simp [Bool.eq_iff_iff]; done)), by go_grown⟩
        · simp only [Bool.true_and]
          go_enter Try.func71, Try.ntmps71
          go_wp2_with (first | (go_at_call 50; refine (l6In_e _ _ _ _).mono ?_; rintro e w' ⟨rfl, rfl⟩) | (go_at_call 72; refine (l1Word_e _ _).mono ?_; rintro e w' ⟨rfl, rfl⟩))
          go_ret
          exact ⟨retBool (by first | rfl | (simp; done) | (simp [Bool.eq_iff_iff]; done)), by go_grown⟩
    · have hr : insOkF (9, a, b, c) size procs = (inI a 0 2 && decide (b = 0) && decide (c = 0)) := by simp [insOkF]
      rw [hr]
      clear hr
      cases g1 : inI a 0 2
      · simp only [Bool.false_and]
        go_enter Try.func71, Try.ntmps71
        go_wp2_with (first | (go_at_call 50; refine (l6In_e _ _ _ _).mono ?_; rintro e w' ⟨rfl, rfl⟩) | (go_at_call 72; refine (l1Word_e _ _).mono ?_; rintro e w' ⟨rfl, rfl⟩))
        go_ret
        exact ⟨retBool (by first | rfl | (simp; done) | (simp [Bool.eq_iff_iff]; done)), by go_grown⟩
      · simp only [Bool.true_and]
        cases g2 : decide (b = 0)
        · have g2' : (b == 0) = false := by simpa using g2
          simp only [Bool.false_and]
          clear g2
          go_enter Try.func71, Try.ntmps71
          go_wp2_with (first | (go_at_call 50; refine (l6In_e _ _ _ _).mono ?_; rintro e w' ⟨rfl, rfl⟩) | (go_at_call 72; refine (l1Word_e _ _).mono ?_; rintro e w' ⟨rfl, rfl⟩))
          go_ret
          exact ⟨retBool (by first | rfl | (simp; done) | (simp [Bool.eq_iff_iff]; done)), by go_grown⟩
        · have g2' : (b == 0) = true := by simpa using g2
          simp only [Bool.true_and]
          clear g2
          go_enter Try.func71, Try.ntmps71
          go_wp2_with (first | (go_at_call 50; refine (l6In_e _ _ _ _).mono ?_; rintro e w' ⟨rfl, rfl⟩) | (go_at_call 72; refine (l1Word_e _ _).mono ?_; rintro e w' ⟨rfl, rfl⟩))
          go_ret
          exact ⟨retBool (by first | rfl | (simp; done) | (simp [Bool.eq_iff_iff]; done)), by go_grown⟩
    · have hr : insOkF (10, a, b, c) size procs = (inI a 0 2 && decide (b = 0) && decide (c = 0)) := by simp [insOkF]
      rw [hr]
      clear hr
      cases g1 : inI a 0 2
      · simp only [Bool.false_and]
        go_enter Try.func71, Try.ntmps71
        go_wp2_with (first | (go_at_call 50; refine (l6In_e _ _ _ _).mono ?_; rintro e w' ⟨rfl, rfl⟩) | (go_at_call 72; refine (l1Word_e _ _).mono ?_; rintro e w' ⟨rfl, rfl⟩))
        go_ret
        exact ⟨retBool (by first | rfl | (simp; done) | (simp [Bool.eq_iff_iff]; done)), by go_grown⟩
      · simp only [Bool.true_and]
        cases g2 : decide (b = 0)
        · have g2' : (b == 0) = false := by simpa using g2
          simp only [Bool.false_and]
          clear g2
          go_enter Try.func71, Try.ntmps71
          go_wp2_with (first | (go_at_call 50; refine (l6In_e _ _ _ _).mono ?_; rintro e w' ⟨rfl, rfl⟩) | (go_at_call 72; refine (l1Word_e _ _).mono ?_; rintro e w' ⟨rfl, rfl⟩))
          go_ret
          exact ⟨retBool (by first | rfl | (simp; done) | (simp [Bool.eq_iff_iff]; done)), by go_grown⟩
        · have g2' : (b == 0) = true := by simpa using g2
          simp only [Bool.true_and]
          clear g2
          go_enter Try.func71, Try.ntmps71
          go_wp2_with (first | (go_at_call 50; refine (l6In_e _ _ _ _).mono ?_; rintro e w' ⟨rfl, rfl⟩) | (go_at_call 72; refine (l1Word_e _ _).mono ?_; rintro e w' ⟨rfl, rfl⟩))
          go_ret
          exact ⟨retBool (by first | rfl | (simp; done) | (simp [Bool.eq_iff_iff]; done)), by go_grown⟩
    · have hr : insOkF (11, a, b, c) size procs = (inI a 0 2 && inI b 0 2 && decide (c = 0)) := by simp [insOkF]
      rw [hr]
      clear hr
      cases g1 : inI a 0 2
      · simp only [Bool.false_and]
        go_enter Try.func71, Try.ntmps71
        go_wp2_with (first | (go_at_call 50; refine (l6In_e _ _ _ _).mono ?_; rintro e w' ⟨rfl, rfl⟩) | (go_at_call 72; refine (l1Word_e _ _).mono ?_; rintro e w' ⟨rfl, rfl⟩))
        go_ret
        exact ⟨retBool (by first | rfl | (simp; done) | (simp [Bool.eq_iff_iff]; done)), by go_grown⟩
      · simp only [Bool.true_and]
        cases g2 : inI b 0 2
        · simp only [Bool.false_and]
          go_enter Try.func71, Try.ntmps71
          go_wp2_with (first | (go_at_call 50; refine (l6In_e _ _ _ _).mono ?_; rintro e w' ⟨rfl, rfl⟩) | (go_at_call 72; refine (l1Word_e _ _).mono ?_; rintro e w' ⟨rfl, rfl⟩))
          go_ret
          exact ⟨retBool (by first | rfl | (simp; done) | (simp [Bool.eq_iff_iff]; done)), by go_grown⟩
        · simp only [Bool.true_and]
          go_enter Try.func71, Try.ntmps71
          go_wp2_with (first | (go_at_call 50; refine (l6In_e _ _ _ _).mono ?_; rintro e w' ⟨rfl, rfl⟩) | (go_at_call 72; refine (l1Word_e _ _).mono ?_; rintro e w' ⟨rfl, rfl⟩))
          go_ret
          exact ⟨retBool (by first | rfl | (simp; done) | (simp [Bool.eq_iff_iff]; done)), by go_grown⟩
    · have hr : insOkF (12, a, b, c) size procs = (inI a 0 2 && inI b 0 2 && decide (c = 0)) := by simp [insOkF]
      rw [hr]
      clear hr
      cases g1 : inI a 0 2
      · simp only [Bool.false_and]
        go_enter Try.func71, Try.ntmps71
        go_wp2_with (first | (go_at_call 50; refine (l6In_e _ _ _ _).mono ?_; rintro e w' ⟨rfl, rfl⟩) | (go_at_call 72; refine (l1Word_e _ _).mono ?_; rintro e w' ⟨rfl, rfl⟩))
        go_ret
        exact ⟨retBool (by first | rfl | (simp; done) | (simp [Bool.eq_iff_iff]; done)), by go_grown⟩
      · simp only [Bool.true_and]
        cases g2 : inI b 0 2
        · simp only [Bool.false_and]
          go_enter Try.func71, Try.ntmps71
          go_wp2_with (first | (go_at_call 50; refine (l6In_e _ _ _ _).mono ?_; rintro e w' ⟨rfl, rfl⟩) | (go_at_call 72; refine (l1Word_e _ _).mono ?_; rintro e w' ⟨rfl, rfl⟩))
          go_ret
          exact ⟨retBool (by first | rfl | (simp; done) | (simp [Bool.eq_iff_iff]; done)), by go_grown⟩
        · simp only [Bool.true_and]
          go_enter Try.func71, Try.ntmps71
          go_wp2_with (first | (go_at_call 50; refine (l6In_e _ _ _ _).mono ?_; rintro e w' ⟨rfl, rfl⟩) | (go_at_call 72; refine (l1Word_e _ _).mono ?_; rintro e w' ⟨rfl, rfl⟩))
          go_ret
          exact ⟨retBool (by first | rfl | (simp; done) | (simp [Bool.eq_iff_iff]; done)), by go_grown⟩
  · have e1 : (K == 1) = false := by simp; omega
    have e2 : (K == 2) = false := by simp; omega
    have e3 : (K == 3) = false := by simp; omega
    have e4 : (K == 4) = false := by simp; omega
    have e5 : (K == 5) = false := by simp; omega
    have e6 : (K == 6) = false := by simp; omega
    have e7 : (K == 7) = false := by simp; omega
    have e8 : (K == 8) = false := by simp; omega
    have e9 : (K == 9) = false := by simp; omega
    have e10 : (K == 10) = false := by simp; omega
    have e11 : (K == 11) = false := by simp; omega
    have e12 : (K == 12) = false := by simp; omega
    have hr : insOkF (K, a, b, c) size procs = false := by
      unfold insOkF; simp only; repeat' split
      all_goals first | rfl | omega
    rw [hr]
    clear hr hK
    go_enter Try.func71, Try.ntmps71
    go_wp2_with (go_at_call 50; refine (l6In_e _ _ _ _).mono ?_; rintro e w' ⟨rfl, rfl⟩)
    go_ret
    exact ⟨rfl, by go_grown⟩

end Go.Proofs.Ytbjegekfghihkaa
