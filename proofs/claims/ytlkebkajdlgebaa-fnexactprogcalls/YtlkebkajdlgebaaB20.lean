import Derived.Test.YtlkebkajdlgebaaB17
import Derived.Test.YtlkebkajdlgebaaB19
import Derived.OwnWalk
import Derived.Test.YtlkebkajdlgebaaB1
/-
  The contracts of SpanKinds, the program's and the model's: a new row of the kinds of which the span has words.
-/
namespace Go.Proofs.Ytlkebkajdlgebaa
open Go.RowKit
set_option linter.unusedVariables false
set_option linter.unusedSimpArgs false

/-- whether a span has words of a kind -/
def kinHas (a : Bool) (l u : Int) (j : Nat) : Bool := (meetF a l u (kindF j).1 (kindF j).2.1 (kindF j).2.2).1
def KL (a : Bool) (l u : Int) : Nat → List Int
  | 0 => []
  | k + 1 => KL a l u k ++ (if kinHas a l u k = true then [(k : Int)] else [])
theorem KL_len (a : Bool) (l u : Int) (k : Nat) : (KL a l u k).length ≤ k := by
  induction k with
  | zero => simp [KL]
  | succ k ih => rw [KL, List.length_append]; split <;> simp <;> omega
/-- the slice value v owns the numbers L, in a block from B on -/
def Owns (x : World) (B : Nat) (v : Value) (L : List Int) : Prop := x.ownsRow B 3 1 v L.length (L.map (Value.int .i64))
theorem Owns.later {x y : World} {B : Nat} {v : Value} {L : List Int} (h : Owns x B v L) (hb : Below x.heap.size x y) : Owns y B v L :=
  World.ownsRow.kept h (row := none) ⟨hb.os, hb.tape, hb.output, hb.size, fun k hk _ => hb.block k hk⟩ (by cases hv : v.ownBlock <;> simp)
theorem Owns.drewN {x : World} {B : Nat} {v : Value} {L : List Int} (h : Owns x B v L) : Owns x.drew B v L := h

theorem keep1 {w x y : World} {m : Nat} {a : Bool} {al ah : Int}
    (h : Below w.heap.size w x ∧ m < x.heap.size ∧ x.cell? ⟨m, 0, none⟩ = some (.bool a) ∧ x.cell? ⟨m, 1, none⟩ = some (.int .i64 al) ∧ x.cell? ⟨m, 2, none⟩ = some (.int .i64 ah))
    (hb : Below x.heap.size x y) :
    Below w.heap.size w y ∧ m < y.heap.size ∧ y.cell? ⟨m, 0, none⟩ = some (.bool a) ∧ y.cell? ⟨m, 1, none⟩ = some (.int .i64 al) ∧ y.cell? ⟨m, 2, none⟩ = some (.int .i64 ah) := by
  obtain ⟨h1, h2, c0, c1, c2⟩ := h
  have hz := hb.size
  have hz1 := h1.size
  exact ⟨h1.trans (hb.mono hz1), by omega, (hb.cell (p := ⟨m, 0, none⟩) h2).trans c0, (hb.cell (p := ⟨m, 1, none⟩) h2).trans c1, (hb.cell (p := ⟨m, 2, none⟩) h2).trans c2⟩
/-- the same where a row of the call's own has turned -/
theorem keep1g {w x y : World} {m : Nat} {a : Bool} {al ah : Int} {v : Value} {L : List Int}
    (h : Below w.heap.size w x ∧ m < x.heap.size ∧ x.cell? ⟨m, 0, none⟩ = some (.bool a) ∧ x.cell? ⟨m, 1, none⟩ = some (.int .i64 al) ∧ x.cell? ⟨m, 2, none⟩ = some (.int .i64 ah))
    (ho : Owns x (m + 1) v L) (hw : w.heap.size ≤ m) (hg : x.grownBy y v.ownBlock) :
    Below w.heap.size w y ∧ m < y.heap.size ∧ y.cell? ⟨m, 0, none⟩ = some (.bool a) ∧ y.cell? ⟨m, 1, none⟩ = some (.int .i64 al) ∧ y.cell? ⟨m, 2, none⟩ = some (.int .i64 ah) := by
  obtain ⟨h1, h2, c0, c1, c2⟩ := h
  have hl := World.ownsRow.lt ho
  have hne : some m ≠ v.ownBlock := fun e => by have := (hl m e.symm).1; omega
  have hz := hg.size
  refine ⟨?_, by omega, hg.cell c0 hne, hg.cell c1 hne, hg.cell c2 hne⟩
  exact h1.grown hg h1.size (fun k hk => by have := (hl k hk).1; omega)

theorem kin_has {a a1 a2 : Bool} {l u l1 u1 l2 u2 : Int} {k : Nat} (h1 : kindF k = (a1, l1, u1)) (h2 : meetF a l u a1 l1 u1 = (a2, l2, u2)) : kinHas a l u k = a2 := by
  unfold kinHas; rw [h1]; simp only; rw [h2]

theorem own_empty (x : World) (B : Nat) (h : B ≤ x.heap.size) : Owns (x.alloc (.cells #[] 3)) B (.slice (some ⟨x.heap.size, 0, none⟩) 0 0) [] := World.ownsRow_lit x #[] 0 h (by unfold maxLen; omega) rfl
theorem own_cell (w : World) (v : Value) : ∀ j u, [v][j]? = some u → (w.alloc (.cells #[v] 3)).cell? ((⟨w.heap.size, 0, none⟩ : Addr).add j) = some u := by
  intro j u hj
  match j, hj with
  | 0, hj => simp at hj; subst hj; simp [Addr.add, go_sem]
theorem KL_yes {a : Bool} {l u : Int} {k : Nat} (h : kinHas a l u k = true) : KL a l u (k + 1) = KL a l u k ++ [(k : Int)] := by rw [KL, if_pos h]
theorem KL_no {a : Bool} {l u : Int} {k : Nat} (h : kinHas a l u k = false) : KL a l u (k + 1) = KL a l u k := by rw [KL, if_neg (by simp [h])]; simp

theorem meet_some {a b a2 : Bool} {al ah bl bh l2 u2 : Int} (h : meetF a al ah b bl bh = (a2, l2, u2)) : (a2 && okF a2 l2 u2) = a2 := by
  cases a2
  · rfl
  · simp only [Bool.true_and]
    unfold meetF at h
    split at h
    · rename_i hb
      simp only [bothF, Bool.and_eq_true] at hb
      obtain ⟨⟨⟨h1, h2⟩, rfl⟩, rfl⟩ := hb
      have e1 := okF_bd h1
      have e2 := okF_bd h2
      unfold mkF at h
      split at h
      · simp [noSp] at h
      · simp at h
        exact okF_t (by omega)
    · simp [noSp] at h

end Go.Proofs.Ytlkebkajdlgebaa

/-
  The contracts of the laws' own helpers on rows of numbers: the same (eqIntS), marked (markIntS), held (heldIntS).
-/
namespace Go.Proofs.Ytlkebkajdlgebaa
open Go.RowKit
set_option linter.unusedVariables false
set_option linter.unusedSimpArgs false

theorem Owns.lower {x : World} {B C : Nat} {v : Value} {L : List Int} (h : Owns x B v L) (hc : C ≤ B) : Owns x C v L := by
  refine ⟨h.1, ?_⟩
  rcases h.2 with hn | ⟨g, cap, cur, e, hb, rest⟩
  · exact .inl hn
  · exact .inr ⟨g, cap, cur, e, Nat.le_trans hc hb, rest⟩
theorem Owns.drawn {x : World} {B : Nat} {v : Value} {L : List Int} (h : Owns x B v L) (n : Nat) : Owns (x.drewN n) B v L := by
  induction n with
  | zero => exact h
  | succ n ih => exact ih
/-- what an owned row looks like: of no number, or its cells one by one -/
theorem Owns.look {x : World} {B : Nat} {v : Value} {L : List Int} (h : Owns x B v L) :
    ∃ p cap, v = .slice p L.length cap ∧ L.length ≤ maxLen ∧ (L.length = 0 ∨ ∃ g, p = some ⟨g, 0, none⟩ ∧ B ≤ g ∧ g < x.heap.size ∧ ∀ j, j < L.length → x.cell? ⟨g, j, none⟩ = some (.int .i64 (L.getD j 0)) ∧ x.frozen? ⟨g, j, none⟩ = false) := by
  rcases h.2 with ⟨e, hn⟩ | ⟨g, cap, cur, e, hb, hg, hnc, hcm, hcs, ht⟩
  · refine ⟨none, 0, ?_, by unfold maxLen; omega, .inl hn⟩
    rw [e, hn]
  · refine ⟨_, cap, e, by omega, .inr ⟨g, rfl, hb, (Array.getElem?_eq_some_iff.1 hg).1, fun j hj => ?_⟩⟩
    subst e
    refine ⟨?_, World.ownsRow.frozenAt h j⟩
    rw [World.ownsRow.cellAt h j (by omega)]
    simp [List.getElem?_eq_getElem hj, List.getD]

set_option maxHeartbeats 1000000 in
theorem eqInts_same (x : World) (B C : Nat) (v v' : Value) (L : List Int) (h : Owns x B v L) (h' : Owns x C v' L) :
    Calls Try.prog 9 #[v, v'] x fun e y => e = .returned (.bool true) ∧ ∃ n, y = x.drewN n := by
  obtain ⟨p, cap, rfl, hm, hl⟩ := h.look
  obtain ⟨p', cap', rfl, _, hl'⟩ := h'.look
  clear h h'
  unfold maxLen at hm
  generalize hn : L.length = n at *
  have HN : Hid (L.length = n) := hn
  clear hn
  rcases hl with h0 | ⟨g, rfl, hg, hgx, hc⟩
  · subst h0
    go_enter Try.func9, Try.ntmps9
    go_wp2
    go_rounds 1
    go_ret
    exact ⟨rfl, 0, rfl⟩
  · rcases hl' with h0 | ⟨g', rfl, hg', hgx', hc'⟩
    · subst h0
      go_enter Try.func9, Try.ntmps9
      go_wp2
      go_rounds 1
      go_ret
      exact ⟨rfl, 0, rfl⟩
    · have H1 : Hid (∀ j, j < n → x.cell? ⟨g, j, none⟩ = some (.int .i64 (L.getD j 0)) ∧ x.frozen? ⟨g, j, none⟩ = false) := hc
      have H2 : Hid (∀ j, j < n → x.cell? ⟨g', j, none⟩ = some (.int .i64 (L.getD j 0)) ∧ x.frozen? ⟨g', j, none⟩ = false) := hc'
      clear hc hc'
      go_enter Try.func9, Try.ntmps9
      go_wp2
      go_loopw [5] (fun i y => ∃ k : Nat, k ≤ n ∧ i = .int .i64 k ∧ ∃ q, y = x.drewN q) (fun i _ => n - (intOf i).toNat)
      case atStart => exact ⟨0, by omega, rfl, 0, rfl⟩
      case round =>
        obtain ⟨k, hk, rfl, q, rfl⟩ := hrel
        by_cases hlt : k < n
        · have c1 := (H1.out k hlt).1
          have c2 := (H2.out k hlt).1
          have hi : (k : Int) < (n : Int) := by omega
          generalize L.getD k 0 = z at c1 c2
          go_wp2
          go_quiet (fail)
          go_wp2
          go_roundw
          case rel => exact ⟨k + 1, by omega, by go_num, _, rfl⟩
          case measure => simp [intOf]; omega
        · have hi : ¬ (k : Int) < (n : Int) := by omega
          go_wp2
          go_ret
          exact ⟨rfl, q, rfl⟩

set_option maxHeartbeats 1000000 in
theorem heldInts_any (x : World) (B : Nat) (v : Value) (L : List Int) (k : Int) (h : Owns x B v L) (k0 : 0 ≤ k) (k1 : k ≤ 1000000000) (hL : L.length ≤ 1000000000) (hv : ∀ j, j < L.length → L.getD j 0 = k + j) :
    Calls Try.prog 13 #[v, .int .i64 k] x fun e y => e = .returned (.int .i64 (k + L.length)) ∧ y = x := by
  obtain ⟨p, cap, rfl, hm, hl⟩ := h.look
  clear h
  unfold maxLen at hm
  generalize hn : L.length = n at *
  clear hn
  rcases hl with h0 | ⟨g, rfl, hg, hgx, hc⟩
  · subst h0
    clear hv
    go_enter Try.func13, Try.ntmps13
    go_wp2
    go_rounds 1
    go_ret
    exact ⟨ret_int (by simp), rfl⟩
  · have H1 : Hid (∀ j, j < n → x.cell? ⟨g, j, none⟩ = some (.int .i64 (k + j))) := fun j hj => by rw [← hv j hj]; exact (hc j hj).1
    clear hc hv
    go_enter Try.func13, Try.ntmps13
    go_wp2
    go_loop [1, 5] (fun m i => ∃ j : Nat, j ≤ n ∧ i = .int .i64 j ∧ m = .int .i64 (k + j)) (fun _ i => n - (intOf i).toNat)
    case atStart => exact ⟨0, by omega, rfl, by simp⟩
    case round =>
      obtain ⟨j, hj, rfl, rfl⟩ := hrel
      by_cases hlt : j < n
      · have c1 := H1.out j hlt
        have hi : (j : Int) < (n : Int) := by omega
        go_wp2
        go_round
        case rel => exact ⟨j + 1, by omega, by go_num, by go_num⟩
        case measure => simp [intOf]; omega
      · obtain rfl : j = n := by omega
        go_wp2
        go_ret
        exact ⟨rfl, rfl⟩

set_option maxHeartbeats 1000000 in
theorem markInts_any (x : World) (B : Nat) (v : Value) (L : List Int) (k : Int) (h : Owns x B v L) (k0 : 0 ≤ k) (k1 : k ≤ 1000000000) (hL : L.length ≤ 1000000000) :
    Calls Try.prog 12 #[v, .int .i64 k] x fun e y => e = .returned (.int .i64 (k + L.length)) ∧ ∃ L' : List Int, L'.length = L.length ∧ Owns y B v L' ∧ (∀ j, j < L.length → L'.getD j 0 = k + j) ∧ x.grownBy y v.ownBlock := by
  obtain ⟨p, cap, rfl, hm, hl⟩ := h.look
  unfold maxLen at hm
  rcases hl with h0 | ⟨g, rfl, hg, hgx, hc⟩
  · rw [h0]
    have hO : Hid (Owns x B (.slice p L.length cap) L) := h
    clear h
    go_enter Try.func12, Try.ntmps12
    go_wp2
    go_rounds 1
    go_ret
    refine ⟨ret_int (by simp), L, h0, ?_, fun j hj => by omega, ⟨rfl, rfl, rfl, Nat.le_refl _, fun _ _ _ => rfl⟩⟩
    have := hO.out
    rwa [h0] at this
  · clear hc
    generalize hn : L.length = n at *
    go_enter Try.func12, Try.ntmps12
    go_wp2
    go_loopw [1, 5] (fun m i y => ∃ (j : Nat) (L' : List Int), j ≤ n ∧ i = .int .i64 j ∧ m = .int .i64 (k + j) ∧ L'.length = n ∧ Owns y B (.slice (some ⟨g, 0, none⟩) n cap) L' ∧ (∀ t, t < j → L'.getD t 0 = k + t) ∧ x.grownBy y (some g)) (fun _ i _ => n - (intOf i).toNat)
    case atStart => exact ⟨0, L, by omega, rfl, by simp, hn, h, fun t ht => by omega, ⟨rfl, rfl, rfl, Nat.le_refl _, fun _ _ _ => rfl⟩⟩
    case round =>
      obtain ⟨j, L', hj, rfl, rfl, hl', ho, ht, hgr⟩ := hrel
      by_cases hlt : j < n
      · have hi : (j : Int) < (n : Int) := by omega
        have ho' := ho
        unfold Owns at ho'
        rw [hl'] at ho'
        have c1 := World.ownsRow.cellAt ho' j (by omega)
        have c2 := World.ownsRow.frozenAt ho' j
        have c3 := World.ownsRow.stored ho' j (.int .i64 (k + j))
        rw [List.getElem?_eq_getElem (by simp; omega)] at c1
        generalize (List.map (Value.int IntKind.i64) L')[j]'(by simp; omega) = z at c1
        have C3 : Hid ((wr.setCell ⟨g, j, none⟩ (.int .i64 (k + j))).ownsRow B 3 1 (.slice (some ⟨g, 0, none⟩) n cap) n ((List.map (Value.int .i64) L').set j (.int .i64 (k + j))) ∧ wr.grownBy (wr.setCell ⟨g, j, none⟩ (.int .i64 (k + j))) (some g)) := c3
        have HT : Hid (∀ t, t < j → L'.getD t 0 = k + t) := ht
        clear ht ho ho' c3
        go_wp2
        go_roundw
        case rel =>
          refine ⟨j + 1, L'.set j (k + j), by omega, by go_num, by go_num, by simpa using hl', ?_, ?_, ?_⟩
          · unfold Owns; rw [List.length_set, hl', List.map_set]; exact C3.out.1
          · intro t htj
            by_cases e : t = j
            · subst e; simp [List.getD, List.getElem?_set, hl', hlt]
            · have := HT.out t (by omega)
              rw [← this]
              simp [List.getD, List.getElem?_set]
              rw [if_neg (by omega)]
          · exact ⟨C3.out.2.os.trans hgr.os, C3.out.2.tape.trans hgr.tape, C3.out.2.output.trans hgr.output, Nat.le_trans hgr.size C3.out.2.size, fun b hb hne => (C3.out.2.block b (Nat.lt_of_lt_of_le hb hgr.size) hne).trans (hgr.block b hb hne)⟩
        case measure => simp [intOf]; omega
      · obtain rfl : j = n := by omega
        go_wp2
        go_ret
        exact ⟨rfl, L', hl', ho, ht, hgr⟩
end Go.Proofs.Ytlkebkajdlgebaa
