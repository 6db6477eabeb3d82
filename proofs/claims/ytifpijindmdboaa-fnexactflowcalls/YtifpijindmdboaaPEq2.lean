/-
  The contracts of the laws' own helpers: two programs are the same (eqProc, eqProcS).
-/
import Derived.Test.YtifpijindmdboaaPEq
namespace Go.Proofs.Ytifpijindmdboaa
open Go.RowKit
set_option linter.unusedVariables false
set_option linter.unusedSimpArgs false

set_option maxHeartbeats 1000000 in
theorem eqProc_same (x : World) (B C : Nat) (v u : Value) (c : List I4) (h : CodeAt x B v c) (h' : CodeAt x C u c) :
    Calls Try.prog 51 #[.agg #[v], .agg #[u]] x fun e y => e = .returned (.bool true) ∧ Below x.heap.size x y := by
  obtain ⟨p, cap, rfl, _⟩ := id h
  obtain ⟨p', cap', rfl, _⟩ := id h'
  go_enter Try.func51, Try.ntmps51
  go_wp2_with fail
  have hbW : Below x.heap.size x ((x.alloc (.cells #[.slice p c.length cap] 77)).alloc (.cells #[.slice p' c.length cap'] 77)) := by go_grown
  refine (eqInsS_same _ B C _ _ c (h.later hbW) (h'.later hbW)).mono ?_
  rintro e y ⟨rfl, hb⟩
  have hB : Below x.heap.size x y := hbW.trans (hb.mono (by simp; omega))
  clear hbW hb h h'
  go_wp2_with fail
  go_ret
  exact ⟨rfl, hB⟩

theorem keep2 {w y : World} {g o g' o' : Nat} {u v : Value} (h : w.cell? ⟨g, o, none⟩ = some u ∧ w.cell? ⟨g', o', none⟩ = some v) (hb : Below w.heap.size w y) (hg : g < w.heap.size) (hg' : g' < w.heap.size) : y.cell? ⟨g, o, none⟩ = some u ∧ y.cell? ⟨g', o', none⟩ = some v :=
  ⟨(hb.cell (p := ⟨g, o, none⟩) hg).trans h.1, (hb.cell (p := ⟨g', o', none⟩) hg').trans h.2⟩

set_option maxHeartbeats 1000000 in
theorem eqProcS_same (x : World) (B C : Nat) (v u : Value) (P : List (List I4)) (h : ProgAt x B v P) (h' : ProgAt x C u P) :
    Calls Try.prog 16 #[v, u] x fun e y => e = .returned (.bool true) ∧ Below x.heap.size x y := by
  obtain ⟨p, cap, rfl, hm, hc⟩ := h
  obtain ⟨p', cap', rfl, _, hc'⟩ := h'
  generalize hL : P.length = n at *
  unfold maxLen at hm
  have hni : (n : Int) ≤ 9223372036854775807 := by omega
  clear hL hm
  go_enter Try.func16, Try.ntmps16
  go_wp2_with fail
  go_loopw [5] (fun t y => ∃ k : Nat, k ≤ n ∧ t = .int .i64 k ∧ Below x.heap.size x y) (fun t _ => n - (intOf t).toNat)
  case atStart => exact ⟨0, by omega, rfl, Below.refl _ _⟩
  case round =>
    obtain ⟨k, hk, rfl, hB⟩ := hrel
    by_cases hlt : k < n
    · rcases hc with h0 | ⟨g, o, rfl, hBg, hgx, hins⟩
      · omega
      rcases hc' with h0 | ⟨g', o', rfl, hBg', hgx', hins'⟩
      · omega
      have hki : (k : Int) < (n : Int) := by omega
      obtain ⟨u1, cu1, hcu1⟩ := hins k hlt
      obtain ⟨u2, cu2, hcu2⟩ := hins' k hlt
      obtain ⟨p1, c1, hu1, _⟩ := id hcu1
      obtain ⟨p2, c2, hu2, _⟩ := id hcu2
      subst hu1 hu2
      have d0 := (hB.cell (p := ⟨g, o + k, none⟩) hgx).trans cu1
      have e0 := (hB.cell (p := ⟨g', o' + k, none⟩) hgx').trans cu2
      have HC1 : Hid (CodeAt wr B (.slice p1 (P.getD k []).length c1) (P.getD k [])) := hcu1.later hB
      have HC2 : Hid (CodeAt wr C (.slice p2 (P.getD k []).length c2) (P.getD k [])) := hcu2.later hB
      clear cu1 cu2 hcu1 hcu2 hins hins'
      generalize P.getD k [] = Q at *
      have hgw : g < wr.heap.size := Nat.lt_of_lt_of_le hgx hB.size
      have hgw' : g' < wr.heap.size := Nat.lt_of_lt_of_le hgx' hB.size
      go_wp2_with fail
      go_region_held3 (fun z => z.cell? ⟨g, o + k, none⟩ = some (.slice p1 Q.length c1) ∧ z.cell? ⟨g', o' + k, none⟩ = some (.slice p2 Q.length c2)) (first | (with_reducible assumption) | exact ⟨d0, e0⟩ | fail) ((go_at_call 51; refine (eqProc_same _ B C _ _ Q (HC1.out.later (Below.drew (Below.refl _ _))) (HC2.out.later (Below.drew (Below.refl _ _)))).mono ?_; rintro e w2 ⟨rfl, hb2⟩; have hS2 := keep2 (w := wr.drew) ⟨d0, e0⟩ hb2 hgw hgw'))
      have hB2 : Below x.heap.size x w2 := hB.trans ((Below.drew (Below.refl _ _)).trans (hb2.mono (by simp)) |>.mono hB.size)
      go_wp2_with fail
      go_roundw
      case rel => exact ⟨k + 1, by omega, by go_num, hB2⟩
      case measure => simp [intOf]; omega
    · obtain rfl : k = n := by omega
      have hki : ¬ (k : Int) < (k : Int) := by omega
      go_wp2_with fail
      go_ret
      exact ⟨rfl, hB⟩

end Go.Proofs.Ytifpijindmdboaa
