import Derived.Test.YtlkebkajdlgebaaB15
import Derived.Test.YtlkebkajdlgebaaB12
import Derived.Test.YtlkebkajdlgebaaB4
/-
  The contracts of the laws' own helpers on states: copied (toState), the same (eqSpanS, eqState).
-/
namespace Go.Proofs.Ytlkebkajdlgebaa
open Go.RowKit
set_option linter.unusedVariables false
set_option linter.unusedSimpArgs false

theorem SpsAt.shape {z : Bool} {x : World} {B E : Nat} {v : Value} {L : List Sp} (h : SpsAt z x B E v L) : ∃ p cap, v = .slice p L.length cap := by
  obtain ⟨p, cap, hv, _⟩ := h
  exact ⟨p, cap, hv⟩

theorem keep6 {w y : World} {g o g' o' k : Nat} {i0 : Bool} {i1 i2 : Int} (h : (fun z => z.cell? ⟨g, o + k * 3, none⟩ = some (.bool i0) ∧ z.cell? ⟨g, o + k * 3 + 1, none⟩ = some (.int .i64 i1) ∧ z.cell? ⟨g, o + k * 3 + 2, none⟩ = some (.int .i64 i2) ∧ z.cell? ⟨g', o' + k * 3, none⟩ = some (.bool i0) ∧ z.cell? ⟨g', o' + k * 3 + 1, none⟩ = some (.int .i64 i1) ∧ z.cell? ⟨g', o' + k * 3 + 2, none⟩ = some (.int .i64 i2)) w) (hb : Below w.heap.size w y) (hg : g < w.heap.size) (hg' : g' < w.heap.size) : (fun z => z.cell? ⟨g, o + k * 3, none⟩ = some (.bool i0) ∧ z.cell? ⟨g, o + k * 3 + 1, none⟩ = some (.int .i64 i1) ∧ z.cell? ⟨g, o + k * 3 + 2, none⟩ = some (.int .i64 i2) ∧ z.cell? ⟨g', o' + k * 3, none⟩ = some (.bool i0) ∧ z.cell? ⟨g', o' + k * 3 + 1, none⟩ = some (.int .i64 i1) ∧ z.cell? ⟨g', o' + k * 3 + 2, none⟩ = some (.int .i64 i2)) y := by
  obtain ⟨d0, d1, d2, e0, e1, e2⟩ := h
  exact ⟨(hb.cell (p := ⟨g, _, none⟩) hg).trans d0, (hb.cell (p := ⟨g, _, none⟩) hg).trans d1, (hb.cell (p := ⟨g, _, none⟩) hg).trans d2, (hb.cell (p := ⟨g', _, none⟩) hg').trans e0, (hb.cell (p := ⟨g', _, none⟩) hg').trans e1, (hb.cell (p := ⟨g', _, none⟩) hg').trans e2⟩
end Go.Proofs.Ytlkebkajdlgebaa

/-
  Whether there is a procedure: the contracts of hasProc and l2Proc; of insAt; of comesBy and l12At.
-/
namespace Go.Proofs.Ytlkebkajdlgebaa
open Go.RowKit
set_option linter.unusedVariables false
set_option linter.unusedSimpArgs false

theorem ProgAt.shape {x : World} {B : Nat} {v : Value} {P : List (List I4)} (h : ProgAt x B v P) : ∃ p cap, v = .slice p P.length cap ∧ P.length ≤ maxLen := by
  obtain ⟨p, cap, hv, hm, _⟩ := h
  exact ⟨p, cap, hv, hm⟩
/-- a procedure's code -/
theorem ProgAt.code {x : World} {B : Nat} {p : Option Addr} {cap : Nat} {P : List (List I4)} (h : ProgAt x B (.slice p P.length cap) P) {k : Nat} (hk : k < P.length) :
    ∃ g o u, p = some ⟨g, o, none⟩ ∧ g < x.heap.size ∧ x.cell? ⟨g, o + k, none⟩ = some u ∧ CodeAt x B u (P.getD k []) := by
  obtain ⟨p', cap', hv, _, hc⟩ := h
  injection hv with e1 e2 e3
  subst e1
  rcases hc with h0 | ⟨g, o, hp, _, hg, hj⟩
  · omega
  · obtain ⟨u, hu, hcu⟩ := hj k hk
    exact ⟨g, o, u, hp, hg, hu, hcu⟩
theorem CodeAt.ins {x : World} {B : Nat} {p : Option Addr} {cap : Nat} {c : List I4} (h : CodeAt x B (.slice p c.length cap) c) {j : Nat} (hj : j < c.length) :
    ∃ g o, p = some ⟨g, o, none⟩ ∧ g < x.heap.size ∧ Ins4 x g (o + j * 4) (c.getD j i0) := by
  obtain ⟨p', cap', hv, _, hc⟩ := h
  injection hv with e1 e2 e3
  subst e1
  rcases hc with h0 | ⟨g, o, hp, _, hg, hj'⟩
  · omega
  · exact ⟨g, o, hp, hg, hj' j hj⟩
theorem CodeAt.shape {x : World} {B : Nat} {v : Value} {c : List I4} (h : CodeAt x B v c) : ∃ p cap, v = .slice p c.length cap ∧ c.length ≤ maxLen := by
  obtain ⟨p, cap, hv, hm, _⟩ := h
  exact ⟨p, cap, hv, hm⟩
theorem progOkF_len {P : List (List I4)} (h : progOkF P = true) : 1 ≤ P.length ∧ P.length ≤ 4 := by
  simp only [progOkF, Bool.and_eq_true, decide_eq_true_eq] at h
  exact h.1
theorem progOkF_code {P : List (List I4)} (h : progOkF P = true) {k : Nat} (hk : k < P.length) : (P.getD k []).length ≤ 8 ∧ ∀ j, j < (P.getD k []).length → insOkF ((P.getD k []).getD j i0) (P.getD k []).length P.length = true := by
  simp only [progOkF, Bool.and_eq_true, List.all_eq_true] at h
  have hm : P.getD k [] ∈ P := by rw [List.getD, List.getElem?_eq_getElem hk]; simp
  have h2 := h.2 _ hm
  simp only [codeOkF, Bool.and_eq_true, decide_eq_true_eq, List.all_eq_true] at h2
  generalize P.getD k [] = C at h2
  exact ⟨h2.1, fun j hj => h2.2 _ (by rw [List.getD, List.getElem?_eq_getElem hj]; simp)⟩

/-- whether a program is ok and has that procedure -/
def hasPF (P : List (List I4)) (k : Int) : Bool := progOkF P && inI k 0 (P.length - 1)
theorem hasPF_at {P : List (List I4)} {k : Int} (h : hasPF P k = true) : ∃ n : Nat, k = n ∧ n < P.length ∧ progOkF P = true := by
  simp only [hasPF, inI, Bool.and_eq_true, decide_eq_true_eq] at h
  exact ⟨k.toNat, by omega, by omega, h.1⟩

set_option maxHeartbeats 1000000 in
theorem hasProc_impl (x : World) (B : Nat) (v : Value) (P : List (List I4)) (h : ProgAt x B v P) (k : Int) :
    Calls Try.prog 22 #[v, .int .i64 k] x fun e y => e = .returned (.bool (hasPF P k)) ∧ Below x.heap.size x y := by
  obtain ⟨p, cap, rfl, hm⟩ := h.shape
  have H : Hid (ProgAt x B (.slice p P.length cap) P) := h
  clear h hm
  go_enter Try.func22, Try.ntmps22
  go_wp2_with fail
  refine (progOk_impl _ _ _ P H.out).mono ?_
  rintro e y ⟨rfl, hb⟩
  cases hok : progOkF P
  · go_wp2_with fail
    go_ret
    exact ⟨retBool (by simp [hasPF, hok]), hb⟩
  · have hl := progOkF_len hok
    have hb1 : (P.length : Int) ≤ 4 := by omega
    go_wp2_with fail
    refine (hasProc_any P.length 0 k _).mono ?_
    rintro e z ⟨rfl, hb2⟩
    have hb3 := hb.trans (hb2.mono hb.size)
    go_wp2_with fail
    go_ret
    exact ⟨retBool (by simp [hasPF, hok]), hb3⟩

set_option maxHeartbeats 1000000 in
theorem l2Proc_any (x : World) (B : Nat) (v : Value) (P : List (List I4)) (h : ProgAt x B v P) (k : Int) :
    Calls Try.prog 19 #[v, .int .i64 k] x fun e y => e = .returned (.bool (hasPF P k)) ∧ Below x.heap.size x y := by
  obtain ⟨p, cap, rfl, hm⟩ := h.shape
  have H : Hid (ProgAt x B (.slice p P.length cap) P) := h
  clear h hm
  go_enter Try.func19, Try.ntmps19
  go_wp2_with fail
  refine (progOk_spec _ _ _ P H.out).mono ?_
  rintro e y ⟨rfl, hb⟩
  cases hok : progOkF P
  · go_wp2_with fail
    go_ret
    exact ⟨retBool (by simp [hasPF, hok]), hb⟩
  · have hl := progOkF_len hok
    have hb1 : (P.length : Int) ≤ 4 := by omega
    go_wp2_with fail
    refine (l6In_e _ _ _ _).mono ?_
    rintro e z ⟨rfl, rfl⟩
    go_wp2_with fail
    go_ret
    exact ⟨retBool (by simp [hasPF, hok]), hb⟩

/-- the instruction at a place, behind its interface; nil at the end -/
def insF (c : List I4) (at_ : Nat) : Value := if at_ = c.length then .nilIface else ifcF (c.getD at_ i0)

/-- whether a place is one of a procedure's code -/
def placeF (P : List (List I4)) (k a : Int) : Bool := inI a 0 ((P.getD k.toNat []).length)
/-- whether one comes by a place with a state -/
def comesF (P : List (List I4)) (k at_ : Int) (a : Bool) (L : List Sp) (c : Sp) : Bool := hasPF P k && placeF P k at_ && stOk a L c && a

end Go.Proofs.Ytlkebkajdlgebaa
