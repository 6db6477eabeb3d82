import Derived.Test.YtlkebkajdlgebaaGreatB14
import Derived.Test.YtlkebkajdlgebaaGreatB5
/-
  Whether something may be wrong at an instruction: the contracts of mayBeWrong, faultOf, l12Wrong, l3May.
-/
namespace Go.Proofs.YtlkebkajdlgebaaGreat
open Go.RowKit
set_option linter.unusedVariables false
set_option linter.unusedSimpArgs false

theorem ta_set_do (v : Value) (w : World) : Sem.run Tryz.prog (Instr.typeAssert (.iface 156 v) 130 162 true) w = .ok (.tuple #[.agg #[.int .i64 0, .int .i64 0, .int .i64 0], .bool false]) w := by kernel_rfl
theorem ta_move_do (v : Value) (w : World) : Sem.run Tryz.prog (Instr.typeAssert (.iface 158 v) 130 162 true) w = .ok (.tuple #[.agg #[.int .i64 0, .int .i64 0, .int .i64 0], .bool false]) w := by kernel_rfl
theorem ta_ask_do (v : Value) (w : World) : Sem.run Tryz.prog (Instr.typeAssert (.iface 160 v) 130 162 true) w = .ok (.tuple #[.agg #[.int .i64 0, .int .i64 0, .int .i64 0], .bool false]) w := by kernel_rfl
theorem ta_do_do (v : Value) (w : World) : Sem.run Tryz.prog (Instr.typeAssert (.iface 162 v) 130 162 true) w = .ok (.tuple #[v, .bool true]) w := by kernel_rfl
theorem ta_go_do (v : Value) (w : World) : Sem.run Tryz.prog (Instr.typeAssert (.iface 164 v) 130 162 true) w = .ok (.tuple #[.agg #[.int .i64 0, .int .i64 0, .int .i64 0], .bool false]) w := by kernel_rfl
theorem ta_less_do (v : Value) (w : World) : Sem.run Tryz.prog (Instr.typeAssert (.iface 166 v) 130 162 true) w = .ok (.tuple #[.agg #[.int .i64 0, .int .i64 0, .int .i64 0], .bool false]) w := by kernel_rfl
theorem ta_same_do (v : Value) (w : World) : Sem.run Tryz.prog (Instr.typeAssert (.iface 167 v) 130 162 true) w = .ok (.tuple #[.agg #[.int .i64 0, .int .i64 0, .int .i64 0], .bool false]) w := by kernel_rfl
theorem ta_call_do (v : Value) (w : World) : Sem.run Tryz.prog (Instr.typeAssert (.iface 169 v) 130 162 true) w = .ok (.tuple #[.agg #[.int .i64 0, .int .i64 0, .int .i64 0], .bool false]) w := by kernel_rfl
theorem ta_back_do (v : Value) (w : World) : Sem.run Tryz.prog (Instr.typeAssert (.iface 171 v) 130 162 true) w = .ok (.tuple #[.agg #[.int .i64 0, .int .i64 0, .int .i64 0], .bool false]) w := by kernel_rfl
theorem ta_hold_do (v : Value) (w : World) : Sem.run Tryz.prog (Instr.typeAssert (.iface 173 v) 130 162 true) w = .ok (.tuple #[.agg #[.int .i64 0, .int .i64 0, .int .i64 0], .bool false]) w := by kernel_rfl
theorem ta_put_do (v : Value) (w : World) : Sem.run Tryz.prog (Instr.typeAssert (.iface 175 v) 130 162 true) w = .ok (.tuple #[.agg #[.int .i64 0, .int .i64 0, .int .i64 0], .bool false]) w := by kernel_rfl
theorem ta_get_do (v : Value) (w : World) : Sem.run Tryz.prog (Instr.typeAssert (.iface 177 v) 130 162 true) w = .ok (.tuple #[.agg #[.int .i64 0, .int .i64 0, .int .i64 0], .bool false]) w := by kernel_rfl
theorem ta_nil_do (w : World) : Sem.run Tryz.prog (Instr.typeAssert .nilIface 130 162 true) w = .ok (.tuple #[.agg #[.int .i64 0, .int .i64 0, .int .i64 0], .bool false]) w := by kernel_rfl
theorem ta_nil_hold (w : World) : Sem.run Tryz.prog (Instr.typeAssert .nilIface 130 173 true) w = .ok (.tuple #[.agg #[.int .i64 0], .bool false]) w := by kernel_rfl
theorem ta_nil_put (w : World) : Sem.run Tryz.prog (Instr.typeAssert .nilIface 130 175 true) w = .ok (.tuple #[.agg #[.int .i64 0, .int .i64 0], .bool false]) w := by kernel_rfl
theorem ta_nil_get (w : World) : Sem.run Tryz.prog (Instr.typeAssert .nilIface 130 177 true) w = .ok (.tuple #[.agg #[.int .i64 0, .int .i64 0], .bool false]) w := by kernel_rfl
attribute [local go_sem] ta_set_do ta_move_do ta_ask_do ta_do_do ta_go_do ta_less_do ta_same_do ta_call_do ta_back_do ta_hold_do ta_put_do ta_get_do ta_nil_do ta_nil_hold ta_nil_put ta_nil_get ta_set_hold ta_set_put ta_set_get ta_move_hold ta_move_put ta_move_get ta_ask_hold ta_ask_put ta_ask_get ta_do_hold ta_do_put ta_do_get ta_go_hold ta_go_put ta_go_get ta_less_hold ta_less_put ta_less_get ta_same_hold ta_same_put ta_same_get ta_call_hold ta_call_put ta_call_get ta_back_hold ta_back_put ta_back_get ta_hold_hold ta_hold_put ta_hold_get ta_put_hold ta_put_put ta_put_get ta_get_hold ta_get_put ta_get_get

/-- whether an instruction may be wrong, by the registers' spans -/
def mayF (I : I4) (L : List Sp) : Bool :=
  let a := L.getD I.2.1.toNat noSp
  let b := L.getD I.2.2.1.toNat noSp
  if I.1 = 4 then decide (I.2.2.2 = 4) && hasF b.1 b.2.1 b.2.2 0
  else if I.1 = 10 then hasF a.1 a.2.1 a.2.2 0
  else if I.1 = 11 then !inF a.1 a.2.1 a.2.2 true 0 2
  else if I.1 = 12 then !inF b.1 b.2.1 b.2.2 true 0 2
  else false
/-- an instruction's fault -/
def faultF (I : I4) : Int := if I.1 = 4 then (if I.2.2.2 = 4 then 1 else 0) else if I.1 = 11 ∨ I.1 = 12 then 2 else if I.1 = 10 then 3 else 0
/-- the registers by which it may be wrong are registers -/
def regsOk (I : I4) : Prop := (I.1 = 4 → 0 ≤ I.2.2.1 ∧ I.2.2.1 ≤ 2) ∧ (I.1 = 10 → 0 ≤ I.2.1 ∧ I.2.1 ≤ 2) ∧ (I.1 = 11 → 0 ≤ I.2.1 ∧ I.2.1 ≤ 2) ∧ (I.1 = 12 → 0 ≤ I.2.2.1 ∧ I.2.2.1 ≤ 2)
theorem insOkF_regs {i : I4} {q p : Int} (h : insOkF i q p = true) : regsOk i := by
  obtain ⟨K, a, b, c⟩ := i
  refine ⟨fun e => ?_, fun e => ?_, fun e => ?_, fun e => ?_⟩ <;> (simp only at e; subst e; simp [insOkF, inI] at h; dsimp only; omega)

set_option maxHeartbeats 2000000 in
theorem faultOf_any (I : I4) (h1 : 1 ≤ I.1) (h2 : I.1 ≤ 12) (w : World) : Calls Tryz.prog 122 #[ifcF I] w fun e w' => e = .returned (.int .i64 (faultF I)) ∧ Below w.heap.size w w' := by
  obtain ⟨K, a, b, c⟩ := I
  simp only at h1 h2
  by_cases h4 : K = 4
  · subst h4
    simp only [ifcF]
    by_cases hc : c = 4
    · subst hc
      go_enter Tryz.func122, Tryz.ntmps122
      go_wp2
      go_ret
      exact ⟨by simp [faultF], by go_grown⟩
    · have hc' : (c == 4) = false := by simpa using hc
      go_enter Tryz.func122, Tryz.ntmps122
      go_wp2
      go_ret
      exact ⟨by simp [faultF, hc], by go_grown⟩
  · obtain rfl | rfl | rfl | rfl | rfl | rfl | rfl | rfl | rfl | rfl | rfl : K = 1 ∨ K = 2 ∨ K = 3 ∨ K = 5 ∨ K = 6 ∨ K = 7 ∨ K = 8 ∨ K = 9 ∨ K = 10 ∨ K = 11 ∨ K = 12 := by omega
    all_goals
      clear h1 h2 h4
      simp only [ifcF]
      go_enter Tryz.func122, Tryz.ntmps122
      go_wp2
      go_ret
      exact ⟨by simp [faultF], by go_grown⟩

set_option maxHeartbeats 4000000 in
theorem l3May_any (I : I4) (h1 : 1 ≤ I.1) (h2 : I.1 ≤ 12) (w : World) : Calls Tryz.prog 74 #[aggI I] w fun e w' => e = .returned (.int .i64 (faultF I)) ∧ Below w.heap.size w w' := by
  obtain ⟨K, a, b, c⟩ := I
  simp only at h1 h2
  unfold aggI
  by_cases h4 : K = 4
  · subst h4
    by_cases hc : c = 4
    · subst hc
      go_enter Tryz.func74, Tryz.ntmps74
      go_wp2
      go_ret
      exact ⟨by simp [faultF], by go_grown⟩
    · have hc' : (c == 4) = false := by simpa using hc
      go_enter Tryz.func74, Tryz.ntmps74
      go_wp2
      go_ret
      exact ⟨by simp [faultF, hc], by go_grown⟩
  · obtain rfl | rfl | rfl | rfl | rfl | rfl | rfl | rfl | rfl | rfl | rfl : K = 1 ∨ K = 2 ∨ K = 3 ∨ K = 5 ∨ K = 6 ∨ K = 7 ∨ K = 8 ∨ K = 9 ∨ K = 10 ∨ K = 11 ∨ K = 12 := by omega
    all_goals
      clear h1 h2 h4
      go_enter Tryz.func74, Tryz.ntmps74
      go_wp2
      go_ret
      exact ⟨by simp [faultF], by go_grown⟩

end Go.Proofs.YtlkebkajdlgebaaGreat

/-
  Whether numbers are three words: the contracts of areWords and l3Words; whether a run is ok, as a function of what it reads as.
-/
namespace Go.Proofs.YtlkebkajdlgebaaGreat
open Go.RowKit
set_option linter.unusedVariables false
set_option linter.unusedSimpArgs false

def wdF (n : Int) : Bool := inI n (-16) 15
def wordsF (L : List Int) : Bool := decide (L.length = 3) && L.all wdF
def frameF (P : List (List I4)) (f : Fr) : Bool := inI f.p 0 (P.length - 1) && wdF f.a && inI f.t 0 (P.getD f.p.toNat []).length && wordsF f.r && wordsF f.c && inI f.i 0 2
def siteOkF (P : List (List I4)) (s : Int × Int × Int) : Bool := inI s.1 0 (P.length - 1) && inI s.2.1 0 ((P.getD s.1.toNat []).length - 1) && !decide (s.2.2 = 0) && decide (faultF ((P.getD s.1.toNat []).getD s.2.1.toNat i0) = s.2.2)
def topF (F : List Fr) : Fr := F.getD (F.length - 1) fr0
def noSite (s : Int × Int × Int) : Bool := decide (s.1 = 0) && decide (s.2.1 = 0) && decide (s.2.2 = 0)
def endF (P : List (List I4)) (F : List Fr) (e o : Int) (s : Int × Int × Int) : Bool :=
  if e = 0 then decide (0 < F.length) && decide (o = 0) && noSite s
  else if e = 1 then decide (F.length = 0) && wdF o && noSite s
  else if e = 2 then decide (0 < F.length) && decide (o = 0) && siteOkF P s && decide (s.1 = (topF F).p) && decide (s.2.1 = (topF F).t)
  else if e = 3 then decide (F.length = 5) && decide (o = 0) && noSite s
  else false
def runF (P : List (List I4)) (F : List Fr) (n e o : Int) (s : Int × Int × Int) : Bool := progOkF P && decide (F.length ≤ 5) && inI n 0 300 && F.all (frameF P) && endF P F e o s

theorem allI_yes {α : Type} {L : List α} (d : α) (f : α → Bool) (h : ∀ j, j < L.length → f (L.getD j d) = true) : L.all f = true := by
  rw [List.all_eq_true]
  intro s hs
  obtain ⟨j, hj, rfl⟩ := List.getElem_of_mem hs
  have := h j hj
  rwa [List.getD_eq_getElem?_getD, List.getElem?_eq_getElem hj] at this
theorem allI_no {α : Type} {L : List α} (d : α) (f : α → Bool) {j : Nat} (hj : j < L.length) (h : f (L.getD j d) = false) : L.all f = false := by
  rw [List.all_eq_false]
  refine ⟨L[j], List.getElem_mem hj, ?_⟩
  rw [List.getD_eq_getElem?_getD, List.getElem?_eq_getElem hj] at h
  simpa using h

end Go.Proofs.YtlkebkajdlgebaaGreat

/-
  The contracts of the laws' own helpers that measure a run: szIntS, szFrame, szFrameS, szRun.
-/
namespace Go.Proofs.YtlkebkajdlgebaaGreat
open Go.RowKit
set_option linter.unusedVariables false
set_option linter.unusedSimpArgs false

end Go.Proofs.YtlkebkajdlgebaaGreat
