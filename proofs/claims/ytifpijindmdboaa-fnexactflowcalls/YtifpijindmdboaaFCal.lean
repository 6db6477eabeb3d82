/-
  What an instruction may call: the contract of the program's callsFrom and FlowCalls.
-/
import Derived.Test.YtifpijindmdboaaFSf
import Derived.Test.YtifpijindmdboaaInts
import Derived.Test.YtifpijindmdboaaRCall
import Derived.Maps.AppendAt
import Derived.Test.YtifpijindmdboaaInvT
namespace Go.Proofs.Ytifpijindmdboaa
open Go.RowKit
set_option linter.unusedVariables false
set_option linter.unusedSimpArgs false

/-- the numbers of calls of one procedure, with these kinds -/
def callN (B : Int) (K : List Int) (j : Nat) : Int := if j % 2 = 0 then B else K.getD (j / 2) 0
def cellsC (B : Int) (K : List Int) : List Value := K.flatMap fun q => [.int .i64 B, .int .i64 q]
theorem cellsC_app (B : Int) (K : List Int) (q : Int) : cellsC B (K ++ [q]) = cellsC B K ++ [.int .i64 B, .int .i64 q] := by simp [cellsC]
theorem cellsC_get (B : Int) (K : List Int) (j : Nat) (h : j < K.length * 2) : (cellsC B K)[j]? = some (.int .i64 (callN B K j)) := by
  induction K generalizing j with
  | nil => simp at h
  | cons q K ih =>
    match j with
    | 0 => simp [cellsC, callN]
    | 1 => simp [cellsC, callN]
    | j + 2 =>
      have h2 : j < K.length * 2 := by simp at h; omega
      have := ih j h2
      simp only [cellsC, List.flatMap_cons] at this ⊢
      rw [show ([Value.int .i64 B, .int .i64 q] ++ List.flatMap (fun q => [Value.int .i64 B, .int .i64 q]) K)[j + 2]? = (List.flatMap (fun q => [Value.int .i64 B, .int .i64 q]) K)[j]? by simp]
      rw [this]
      have e1 : (j + 2) % 2 = j % 2 := by omega
      have e2 : (j + 2) / 2 = j / 2 + 1 := by omega
      simp [callN, e1, e2]
/-- a row of calls that is owned reads so -/
theorem callsOwn {x : World} {B : Nat} {v : Value} {b : Int} {K : List Int} (h : x.ownsRow B 94 2 v K.length (cellsC b K)) (hm : K.length ≤ 3) : IRow 2 true x B x.heap.size v K.length (callN b K) := by
  rcases h.2 with ⟨e, hn⟩ | ⟨g, cap, cur, e, hb, hg, hnc, hcm, hcs, ht⟩
  · exact ⟨none, 0, by rw [e, hn], by unfold maxLen; omega, .inl hn⟩
  · subst e
    refine ⟨_, cap, rfl, by unfold maxLen; omega, .inr ⟨g, 0, rfl, hb, (Array.getElem?_eq_some_iff.1 hg).1, Nat.le_refl _, fun _ k => World.ownsRow.frozenAt h k, fun j hj => ?_⟩⟩
    rw [Nat.zero_add, World.ownsRow.cellAt h j hj, cellsC_get b K j hj]
theorem takeC {K : List Int} {k : Nat} (h : k < K.length) : K.take (k + 1) = K.take k ++ [K.getD k 0] := by
  rw [List.take_add_one, List.getD_eq_getElem?_getD, List.getElem?_eq_getElem h]
  rfl
def kindsAt (s : Sp) : List Int := KL s.1 s.2.1 s.2.2 3
/-- the kinds with which an instruction calls -/
def callK (c : List I4) (m : Nat) (L : List Sp) : List Int := if m = c.length then [] else if (c.getD m i0).1 = 8 then kindsAt (L.getD (c.getD m i0).2.2.2.toNat noSp) else []
theorem callK_len (c : List I4) (m : Nat) (L : List Sp) : (callK c m L).length ≤ 3 := by
  unfold callK kindsAt
  split
  · simp
  · split
    · exact KL_len _ _ _ _
    · simp
/-- the procedure that it calls -/
def callB (c : List I4) (m : Nat) : Int := (c.getD m i0).2.2.1

theorem infoCall2 : ∃ i, Try.prog.info? 94 = some i ∧ i.zero = some (.agg #[.int .i64 0, .int .i64 0]) ∧ i.size = 2 ∧ i.bytes = 16 := info_parts (by kernel_rfl)

/-- a call is put behind a row that is owned -/
theorem app_call (w : World) (ty : TypeId) (base n : Nat) (v : Value) (xs : List Value) (b q : Int) (hown : w.ownsRow base 94 2 v n xs) (hn : n ≤ 100) (hbase : base ≤ w.heap.size) :
    ∃ v' w', (Builtin.append_ #[48, 48] ty #[v, .slice (some ⟨w.heap.size, 0, none⟩) 1 1]).run Try.prog (w.alloc (.cells #[.int .i64 b, .int .i64 q] 94)) = .ok v' w' ∧ w'.ownsRow base 94 2 v' (n + 1) (xs ++ [.int .i64 b, .int .i64 q]) ∧ Below base w w' := by
  obtain ⟨i, hi, hz0, hz1, hz2⟩ := infoCall2
  obtain ⟨v', w', hr, h2, h3, h4, h5⟩ := run_append_own_at (P := Try.prog) (w.alloc (.cells #[.int .i64 b, .int .i64 q] 94)) base 48 ty 94 i (.agg #[.int .i64 0, .int .i64 0]) 2 16 Try.underlying48 hi hz0 hz1 hz2 rfl (by omega) v n xs (hown.alloc _) ⟨w.heap.size, 0, none⟩ 1 1 [.int .i64 b, .int .i64 q] rfl
    (by
      intro j u hu
      rw [Addr.add_mid]
      match j, hu with
      | 0, hu => obtain rfl : Value.int .i64 b = u := by simpa using hu
                 simp [go_sem]
      | 1, hu => obtain rfl : Value.int .i64 q = u := by simpa using hu
                 simp [go_sem]
      | j + 2, hu => simp at hu)
    (by intro u hu; simp at hu; rcases hu with rfl | rfl <;> rfl) (by unfold maxLen; omega) (by omega) (by simp; omega)
  exact ⟨v', w', hr, h2, ((Below.refl base w).alloc hbase _).grown h3 (by simp; omega) (fun k hk => (hown.lt k hk).1)⟩

end Go.Proofs.Ytifpijindmdboaa
