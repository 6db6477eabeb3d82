/-
  What is of a state is of what is above it: plain facts.
-/
import Derived.Test.YtbmjjmbimfdkoaaSMathJ
import Derived.Test.YtbmjjmbimfdkoaaSHas
namespace Go.Proofs.Ytbmjjmbimfdkoaa
open Go.RowKit
set_option linter.unusedVariables false
set_option linter.unusedSimpArgs false

theorem hasS_up {s t : Sp} (hs : someF s = true) (ht : someF t = true) (hin : inS s t = true) {n : Int} (h : hasS s n = true) : hasS t n = true := by
  obtain ⟨l, u, rfl, bs⟩ := some_form hs
  obtain ⟨m, v, rfl, bt⟩ := some_form ht
  rw [inS_of bs bt] at hin
  unfold hasS hasF at h ⊢
  simp [okw bs.1 bs.2.1 bs.2.2, okw bt.1 bt.2.1 bt.2.2] at h hin ⊢
  omega
theorem has_ok {a : Bool} {L : List Sp} {c : Sp} {R C : List Int} (h : stHas a L c R C = true) : stOk a L c = true := by
  unfold stHas at h
  simp only [Bool.and_eq_true] at h
  exact h.1.1.1.1.1
theorem has_up {a b : Bool} {L M : List Sp} {c d : Sp} {R C : List Int} (h2 : stOk b M d = true) (h : stHas a L c R C = true) (hin : stIn a L c b M d = true) : stHas b M d R C = true := by
  have h1 := has_ok h
  rcases ok_form h1 with ⟨rfl, rfl, rfl⟩ | ⟨rfl, s0, s1, s2, rfl, p0, p1, p2, p3⟩
  · unfold stHas at h; simp at h
  rcases ok_form h2 with ⟨rfl, rfl, rfl⟩ | ⟨rfl, t0, t1, t2, rfl, q0, q1, q2, q3⟩
  · rw [inst_to_none h1] at hin; cases hin
  rw [inst_some h1 h2] at hin
  simp only [Bool.and_eq_true] at hin
  unfold stHas at h ⊢
  rw [h1] at h
  rw [h2]
  simp only [Bool.and_eq_true, Bool.true_and, decide_eq_true_eq] at h ⊢
  obtain ⟨⟨⟨hR, hC⟩, hr⟩, hc⟩ := h
  refine ⟨⟨⟨hR, hC⟩, ?_⟩, ?_⟩
  · unfold regsHas at hr ⊢
    simp [List.range_succ] at hr ⊢
    exact ⟨hasS_up p0 q0 hin.1.1.1 hr.1, hasS_up p1 q1 hin.1.1.2 hr.2.1, hasS_up p2 q2 hin.1.2 hr.2.2⟩
  · rw [List.all_eq_true] at hc ⊢
    exact fun n hn => hasS_up p3 q3 hin.2 (hc n hn)
theorem has_join_l {a b e : Bool} {L M N : List Sp} {c d f : Sp} {R C : List Int} (h2 : stOk b M d = true) (h : stHas a L c R C = true) (hj : stBoth false a L c b M d = (e, N, f)) : stHas e N f R C = true :=
  have F := stJ_facts (has_ok h) h2 hj
  has_up F.1 h F.2.1
theorem has_join_r {a b e : Bool} {L M N : List Sp} {c d f : Sp} {R C : List Int} (h2 : stOk b M d = true) (h : stHas a L c R C = true) (hj : stBoth false b M d a L c = (e, N, f)) : stHas e N f R C = true :=
  have F := stJ_facts h2 (has_ok h) hj
  has_up F.1 h F.2.2.1
theorem has_wide_l {a b e : Bool} {L M N : List Sp} {c d f : Sp} {R C : List Int} (h2 : stOk b M d = true) (h : stHas a L c R C = true) (hj : stBoth true a L c b M d = (e, N, f)) : stHas e N f R C = true := by
  obtain ⟨⟨g, K, k⟩, hk⟩ : ∃ r, stJ a L c b M d = r := ⟨_, rfl⟩
  have F := stW_facts (has_ok h) h2 hj hk
  exact has_up F.1 (has_join_l h2 h hk) F.2.1
theorem has_wide_r {a b e : Bool} {L M N : List Sp} {c d f : Sp} {R C : List Int} (h2 : stOk b M d = true) (h : stHas a L c R C = true) (hj : stBoth true b M d a L c = (e, N, f)) : stHas e N f R C = true := by
  obtain ⟨⟨g, K, k⟩, hk⟩ : ∃ r, stJ b M d a L c = r := ⟨_, rfl⟩
  have F := stW_facts h2 (has_ok h) hj hk
  exact has_up F.1 (has_join_r h2 h hk) F.2.1
end Go.Proofs.Ytbmjjmbimfdkoaa
