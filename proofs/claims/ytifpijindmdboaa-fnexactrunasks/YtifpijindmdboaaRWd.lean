/-
  Whether numbers are three words: the contracts of areWords and l3Words; whether a run is ok, as a function of what it reads as.
-/
import Derived.Test.YtifpijindmdboaaRMem
import Derived.Test.YtifpijindmdboaaFWr
namespace Go.Proofs.Ytifpijindmdboaa
open Go.RowKit
set_option linter.unusedVariables false
set_option linter.unusedSimpArgs false

def wdF (n : Int) : Bool := inI n (-16) 15
def wordsF (L : List Int) : Bool := decide (L.length = 3) && L.all wdF
def frameF (P : List (List I4)) (f : Fr) : Bool := inI f.p 0 (P.length - 1) && wdF f.a && inI f.t 0 (P.getD f.p.toNat []).length && wordsF f.r && wordsF f.c && inI f.i 0 2
def siteOkF (P : List (List I4)) (s : Int × Int × Int) : Bool := inI s.1 0 (P.length - 1) && inI s.2.1 0 ((P.getD s.1.toNat []).length - 1) && !decide (s.2.2 = 0) && decide (faultF ((P.getD s.1.toNat []).getD s.2.1.toNat i0) = s.2.2)
def topF (F : List Fr) : Fr := F.getD (F.length - 1) fr0
def noSite (s : Int × Int × Int) : Bool := decide (s.1 = 0) && decide (s.2.1 = 0) && decide (s.2.2 = 0)
def endF (P : List (List I4)) (F : List Fr) (e o : Int) (s : Int × Int × Int) : Bool :=
  if e = 0 then decide (0 < F.length) && decide (o = 0) && noSite s
  else if e = 1 then decide (F.length = 0) && wdF o && noSite s
  else if e = 2 then decide (0 < F.length) && decide (o = 0) && siteOkF P s && decide (s.1 = (topF F).p) && decide (s.2.1 = (topF F).t)
  else if e = 3 then decide (F.length = 5) && decide (o = 0) && noSite s
  else false
def runF (P : List (List I4)) (F : List Fr) (n e o : Int) (s : Int × Int × Int) : Bool := progOkF P && decide (F.length ≤ 5) && inI n 0 300 && F.all (frameF P) && endF P F e o s

theorem allI_yes {α : Type} {L : List α} (d : α) (f : α → Bool) (h : ∀ j, j < L.length → f (L.getD j d) = true) : L.all f = true := by
  rw [List.all_eq_true]
  intro s hs
  obtain ⟨j, hj, rfl⟩ := List.getElem_of_mem hs
  have := h j hj
  rwa [List.getD_eq_getElem?_getD, List.getElem?_eq_getElem hj] at this
theorem allI_no {α : Type} {L : List α} (d : α) (f : α → Bool) {j : Nat} (hj : j < L.length) (h : f (L.getD j d) = false) : L.all f = false := by
  rw [List.all_eq_false]
  refine ⟨L[j], List.getElem_mem hj, ?_⟩
  rw [List.getD_eq_getElem?_getD, List.getElem?_eq_getElem hj] at h
  simpa using h

set_option maxHeartbeats 1000000 in
theorem areWords_any (x : World) (u : Value) (L : List Int) (h : IntsW x u L) :
    Calls Try.prog 109 #[u, .int .i64 3] x fun e y => e = .returned (.bool (wordsF L)) ∧ y = x := by
  obtain ⟨p, cap, rfl, hm, hc⟩ := h
  unfold maxLen at hm
  have hmi : (L.length : Int) ≤ 9223372036854775807 := by omega
  clear hm
  by_cases h3 : L.length = 3
  · rcases hc with h0 | ⟨g, o, rfl, hBg, hgE, hEx, hf, hins⟩
    · omega
    have HX : Hid (∀ j, j < L.length → x.cell? ⟨g, o + j, none⟩ = some (.int .i64 (L.getD j 0))) := hins
    clear hins hf
    rw [h3]
    have H3 : Hid (L.length = 3) := h3
    clear h3 hmi
    go_enter Try.func109, Try.ntmps109
    go_wp2_with fail
    go_loopw [13] (fun t y => ∃ k : Nat, k ≤ 3 ∧ t = .int .i64 k ∧ y = x ∧ (∀ j, j < k → wdF (L.getD j 0) = true)) (fun t _ => 3 - (intOf t).toNat)
    case atStart => exact ⟨0, by omega, rfl, rfl, fun j hj => by omega⟩
    case round =>
      obtain ⟨k, hk, rfl, rfl, hd⟩ := hrel
      have HD : Hid (∀ j, j < k → wdF (L.getD j 0) = true) := hd
      clear hd
      by_cases hlt : k < 3
      · have hki : (k : Int) < 3 := by omega
        have q0 := HX.out k (by rw [H3.out]; exact hlt)
        generalize hI : L.getD k 0 = I at q0
        have HII : Hid (L.getD k 0 = I) := hI
        clear hI
        cases hw : wdF I
        · go_wp2_with fail
          refine (isWord_e I _).mono ?_
          rintro e w2 ⟨rfl, rfl⟩
          rw [show inI I (-16) 15 = false from hw]
          go_wp2_with fail
          go_ret
          exact ⟨retBool (by unfold wordsF; rw [allI_no 0 wdF (j := k) (by rw [H3.out]; exact hlt) (by rw [HII.out]; exact hw)]; simp), rfl⟩
        · go_wp2_with fail
          refine (isWord_e I _).mono ?_
          rintro e w2 ⟨rfl, rfl⟩
          rw [show inI I (-16) 15 = true from hw]
          go_wp2_with fail
          go_roundw
          case rel =>
            refine ⟨k + 1, by omega, by go_num, trivial, fun j hj => ?_⟩
            by_cases hjk : j = k
            · subst hjk; rw [HII.out]; exact hw
            · exact HD.out j (by omega)
          case measure => simp [intOf]; omega
      · obtain rfl : k = 3 := by omega
        go_wp2_with fail
        go_ret
        exact ⟨retBool (by unfold wordsF; rw [allI_yes 0 wdF (fun j hj => HD.out j (by rw [H3.out] at hj; exact hj)), H3.out]; simp), rfl⟩
  · have h3' : ¬ (L.length : Int) = 3 := by omega
    have HW : Hid (wordsF L = false) := by show wordsF L = false; simp [wordsF, h3]
    clear hc h3
    generalize L.length = n at *
    go_enter Try.func109, Try.ntmps109
    go_wp2_with fail
    go_ret
    exact ⟨retBool HW.out.symm, rfl⟩

set_option maxHeartbeats 1000000 in
theorem l3Words_any (x : World) (u : Value) (L : List Int) (h : IntsW x u L) :
    Calls Try.prog 105 #[u, .int .i64 3] x fun e y => e = .returned (.bool (wordsF L)) ∧ y = x := by
  obtain ⟨p, cap, rfl, hm, hc⟩ := h
  unfold maxLen at hm
  have hmi : (L.length : Int) ≤ 9223372036854775807 := by omega
  clear hm
  by_cases h3 : L.length = 3
  · rcases hc with h0 | ⟨g, o, rfl, hBg, hgE, hEx, hf, hins⟩
    · omega
    have HX : Hid (∀ j, j < L.length → x.cell? ⟨g, o + j, none⟩ = some (.int .i64 (L.getD j 0))) := hins
    clear hins hf
    rw [h3]
    have H3 : Hid (L.length = 3) := h3
    clear h3 hmi
    go_enter Try.func105, Try.ntmps105
    go_wp2_with fail
    go_loopw [5] (fun t y => ∃ k : Nat, k ≤ 3 ∧ t = .int .i64 k ∧ y = x ∧ (∀ j, j < k → wdF (L.getD j 0) = true)) (fun t _ => 3 - (intOf t).toNat)
    case atStart => exact ⟨0, by omega, rfl, rfl, fun j hj => by omega⟩
    case round =>
      obtain ⟨k, hk, rfl, rfl, hd⟩ := hrel
      have HD : Hid (∀ j, j < k → wdF (L.getD j 0) = true) := hd
      clear hd
      by_cases hlt : k < 3
      · have hki : (k : Int) < 3 := by omega
        have q0 := HX.out k (by rw [H3.out]; exact hlt)
        generalize hI : L.getD k 0 = I at q0
        have HII : Hid (L.getD k 0 = I) := hI
        clear hI
        cases hw : wdF I
        · go_wp2_with fail
          refine (l1Word_e I _).mono ?_
          rintro e w2 ⟨rfl, rfl⟩
          rw [show inI I (-16) 15 = false from hw]
          go_wp2_with fail
          go_ret
          exact ⟨retBool (by unfold wordsF; rw [allI_no 0 wdF (j := k) (by rw [H3.out]; exact hlt) (by rw [HII.out]; exact hw)]; simp), rfl⟩
        · go_wp2_with fail
          refine (l1Word_e I _).mono ?_
          rintro e w2 ⟨rfl, rfl⟩
          rw [show inI I (-16) 15 = true from hw]
          go_wp2_with fail
          go_roundw
          case rel =>
            refine ⟨k + 1, by omega, by go_num, trivial, fun j hj => ?_⟩
            by_cases hjk : j = k
            · subst hjk; rw [HII.out]; exact hw
            · exact HD.out j (by omega)
          case measure => simp [intOf]; omega
      · obtain rfl : k = 3 := by omega
        go_wp2_with fail
        go_ret
        exact ⟨retBool (by unfold wordsF; rw [allI_yes 0 wdF (fun j hj => HD.out j (by rw [H3.out] at hj; exact hj)), H3.out]; simp), rfl⟩
  · have h3' : ¬ (L.length : Int) = 3 := by omega
    have HW : Hid (wordsF L = false) := by show wordsF L = false; simp [wordsF, h3]
    clear hc h3
    generalize L.length = n at *
    go_enter Try.func105, Try.ntmps105
    go_wp2_with fail
    go_ret
    exact ⟨retBool HW.out.symm, rfl⟩

end Go.Proofs.Ytifpijindmdboaa
