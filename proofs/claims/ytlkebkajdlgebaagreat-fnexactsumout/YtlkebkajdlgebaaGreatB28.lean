import Derived.Test.YtlkebkajdlgebaaGreatB13
import Derived.Maps.OwnSet
import Derived.Lib.SlKeysI
import Derived.Test.YtlkebkajdlgebaaGreatB25
import Derived.Laws.MakeOwn
/-
  What a code calls, as a list and as a set: plain facts.
-/
namespace Go.Proofs.YtlkebkajdlgebaaGreat
open Go.RowKit
set_option linter.unusedVariables false
set_option linter.unusedSimpArgs false

/-- the procedures that a code calls, in its order -/
def calledL (c : List I4) : List Int := (c.filter (fun i => i.1 == 8)).map (fun i => i.2.2.1)
/-- whether a code calls a procedure -/
def calledF (c : List I4) (n : Int) : Bool := c.any fun i => i.1 == 8 && i.2.2.1 == n
/-- those of the first m procedures that a code calls, ascending -/
def callsL (c : List I4) (m : Nat) : List Int := ((List.range m).map Int.ofNat).filter (calledF c)
/-- the set of what the first k instructions call -/
def setD (c : List I4) (k : Nat) : DataW Unit := Go.Maps.setOf (.agg []) ((calledL (c.take k)).map (Lit.int .i64))

theorem calledF_mem (c : List I4) (n : Int) : calledF c n = decide (n ∈ calledL c) := by
  induction c with
  | nil => simp [calledF, calledL]
  | cons i r ih =>
    have e : calledF (i :: r) n = (i.1 == 8 && i.2.2.1 == n || calledF r n) := rfl
    rw [e, ih]
    by_cases h : i.1 = 8
    · have e2 : calledL (i :: r) = i.2.2.1 :: calledL r := by simp [calledL, h]
      rw [e2]
      by_cases h3 : i.2.2.1 = n
      · simp [h, h3]
      · have h4 : ¬ n = i.2.2.1 := fun e => h3 e.symm
        have h5 : (i.2.2.1 == n) = false := by simpa using h3
        rw [h5]
        simp [h4]
    · have e2 : calledL (i :: r) = calledL r := by simp [calledL, h]
      rw [e2]
      simp [h]
theorem take_next (c : List I4) (k : Nat) (h : k < c.length) : c.take (k + 1) = c.take k ++ [c.getD k i0] := by
  rw [List.take_add_one, List.getD_eq_getElem?_getD, List.getElem?_eq_getElem h]
  rfl
theorem setD_zero (c : List I4) : setD c 0 = .map [] := rfl
theorem setD_call (c : List I4) (k : Nat) (h : k < c.length) (hk : (c.getD k i0).1 = 8) : setD c (k + 1) = (setD c k).put (.int .i64 (c.getD k i0).2.2.1) (.agg []) := by
  unfold setD
  rw [take_next c k h]
  generalize c.getD k i0 = I at *
  have : calledL (c.take k ++ [I]) = calledL (c.take k) ++ [I.2.2.1] := by simp only [calledL, List.filter_append, List.map_append, List.filter_cons, List.filter_nil, hk, beq_self_eq_true, if_true, List.map_cons, List.map_nil]
  rw [this, List.map_append, List.map_singleton, Go.Maps.setOf_snoc]
theorem setD_other (c : List I4) (k : Nat) (h : k < c.length) (hk : (c.getD k i0).1 ≠ 8) : setD c (k + 1) = setD c k := by
  unfold setD
  rw [take_next c k h]
  generalize c.getD k i0 = I at *
  have : calledL (c.take k ++ [I]) = calledL (c.take k) := by
    have e : (I.1 == 8) = false := by simpa using hk
    simp only [calledL, List.filter_append, List.map_append, List.filter_cons, List.filter_nil, e, Bool.false_eq_true, if_false, List.map_nil, List.append_nil]
  rw [this]
theorem any_num (x : Int) : ∀ l : List Int, l.any ((fun y : Lit => y.sameKey (.int .i64 x)) ∘ Lit.int .i64) = decide (x ∈ l)
  | [] => by simp
  | a :: r => by
    rw [List.any_cons, any_num x r]
    by_cases e : a = x
    · subst e
      simp [Lit.sameKey]
    · have e' : ¬ x = a := fun h => e h.symm
      simp [Lit.sameKey, e, e']
theorem has_setD (c : List I4) (x : Int) : Go.Maps.has (setD c c.length) (.int .i64 x) = calledF c x := by
  unfold setD
  rw [Go.Maps.has_setOf _ _ _ (fun y hy => by obtain ⟨_, _, rfl⟩ := List.mem_map.1 hy; trivial), List.any_map, calledF_mem, List.take_length]
  exact any_num x _
theorem callsL_mem (c : List I4) (m : Nat) (hb : ∀ x, calledF c x = true → 0 ≤ x ∧ x < m) (x : Int) : x ∈ callsL c m ↔ calledF c x = true := by
  simp only [callsL, List.mem_filter, List.mem_map, List.mem_range]
  constructor
  · exact fun h => h.2
  · intro h
    have := hb x h
    exact ⟨⟨x.toNat, by omega, by simp; omega⟩, h⟩
theorem callsL_asc (c : List I4) (m : Nat) : (callsL c m).Pairwise (· < ·) := by
  refine List.Pairwise.filter _ ?_
  rw [List.pairwise_map]
  exact List.pairwise_lt_range.imp (fun h => by simpa using h)
/-- the keys of the set, sorted, are just what is called -/
theorem sorted_calls (c : List I4) (m : Nat) (hb : ∀ x, calledF c x = true → 0 ≤ x ∧ x < m) (ss : List Int) {w : World} {P : Program} {k : TypeId} {b n : Nat} (hk : P.underlying k = some (.int .i64)) (hown : w.ownsMap P k (unitElem (H := Unit)) b n (setD c c.length))
    (hp : ss.Perm (intKeys (setD c c.length))) : (ss.mergeSort fun x y => decide (x ≤ y)) = callsL c m := by
  have K : Go.Maps.Keyed P k := Go.Maps.int_keyed hk
  obtain ⟨es, hD, hpw, _⟩ := hown.entries K
  obtain ⟨es', hD', hko⟩ := hown.keysOf
  obtain rfl : es = es' := by rw [hD] at hD'; simpa using hD'
  have hnd : (callsL c m).Nodup := (callsL_asc c m).imp (fun h e => by omega)
  have h2 : (callsL c m).Perm (intKeys (setD c c.length)) := by
    have hmem : ∀ x, x ∈ callsL c m ↔ Go.Maps.has (setD c c.length) (.int .i64 x) = true := fun x => by rw [has_setD, callsL_mem c m hb]
    rw [hD] at hmem ⊢
    exact perm_intKeys hpw (fun p hp => by obtain ⟨v, hv⟩ := hko p hp; obtain ⟨x, _, hx, _⟩ := Maps.keyOf_i64 hk hv; exact ⟨x, hx⟩) hnd hmem
  have e1 := mergeSort_of_perm_i (hp.trans h2.symm)
  show ss.mergeSort leI = _
  rw [e1]
  exact List.mergeSort_of_pairwise ((callsL_asc c m).imp (fun h => by simp; omega))

end Go.Proofs.YtlkebkajdlgebaaGreat

/-
  What a procedure calls: the contracts of the model's l2True and l2Calls.
-/
namespace Go.Proofs.YtlkebkajdlgebaaGreat
open Go.RowKit
set_option linter.unusedVariables false
set_option linter.unusedSimpArgs false

/-- the numbers below n at which a row is true -/
def trueL (f : Nat → Bool) (n : Nat) : List Int := ((List.range n).filter f).map Int.ofNat
theorem trueL_yes {f : Nat → Bool} {k : Nat} (h : f k = true) : trueL f (k + 1) = trueL f k ++ [(k : Int)] := by simp [trueL, List.range_succ, h]
theorem trueL_no {f : Nat → Bool} {k : Nat} (h : f k = false) : trueL f (k + 1) = trueL f k := by simp [trueL, List.range_succ, h]
theorem trueL_len (f : Nat → Bool) (n : Nat) : (trueL f n).length ≤ n := by
  have := List.length_filter_le f (List.range n)
  simpa [trueL] using this
theorem callsL_true (c : List I4) (m : Nat) : callsL c m = trueL (fun j => calledF c j) m := by
  unfold callsL trueL
  rw [List.filter_map]
  rfl
/-- a row of truths: block g of n cells -/
structure Tru (x : World) (g n : Nat) (f : Nat → Bool) : Prop where
  lt : g < x.heap.size
  c : ∀ j, j < n → x.cell? ⟨g, j, none⟩ = some (.bool (f j))
  fz : ∀ j, x.frozen? ⟨g, j, none⟩ = false
theorem Tru.later {x y : World} {g n : Nat} {f : Nat → Bool} (h : Tru x g n f) (hb : Below x.heap.size x y) : Tru y g n f :=
  ⟨Nat.lt_of_lt_of_le h.lt hb.size, fun j hj => (hb.cell (p := ⟨g, j, none⟩) h.lt).trans (h.c j hj), fun j => (hb.frozen (p := ⟨g, j, none⟩) h.lt).trans (h.fz j)⟩
theorem Tru.set {x : World} {g n : Nat} {f : Nat → Bool} (h : Tru x g n f) (i : Nat) (hi : i < n) : Tru (x.setCell ⟨g, i, none⟩ (.bool true)) g n (fun j => j == i || f j) := by
  have hw := h.lt
  refine ⟨by simpa using hw, fun j hj => ?_, fun j => ?_⟩
  · by_cases e : j = i
    · subst e
      rw [sc_same (h.c j hj)]
      simp
    · have e2 : (j == i) = false := by simpa using e
      rw [sc_other (by intro e3; injection e3; omega), h.c j hj, e2, Bool.false_or]
  · exact (World.frozen?_setCell _ _ _ _).trans (h.fz j)

set_option maxRecDepth 100000 in
set_option maxHeartbeats 2000000 in
theorem l2True_any (x : World) (g n : Nat) (f : Nat → Bool) (cap : Nat) (h : Tru x g n f) (hn : n ≤ 1000) :
    Calls Tryz.prog 75 #[.slice (some ⟨g, 0, none⟩) n cap] x fun e y => ∃ v, e = .returned v ∧ Owns y x.heap.size v (trueL f n) ∧ Below x.heap.size x y := by
  obtain ⟨i0, hi, hz0, hz1, hz2⟩ : ∃ i, Tryz.prog.info? 3 = some i ∧ i.zero = some (.int .i64 0) ∧ i.size = 1 ∧ i.bytes = 8 := info_parts (by kernel_rfl)
  have HI : Hid (Tryz.prog.info? 3 = some i0 ∧ i0.zero = some (.int .i64 0) ∧ i0.size = 1 ∧ i0.bytes = 8) := ⟨hi, hz0, hz1, hz2⟩
  have HT : Hid (Tru x g n f) := h
  have hni : (n : Int) ≤ 1000 := by omega
  clear hi hz0 hz1 hz2 h
  go_enter Tryz.func75, Tryz.ntmps75
  go_wp2_with fail
  go_loopw [3, 4] (fun v i y => ∃ k : Nat, k ≤ n ∧ i = .int .i64 k ∧ Hid (Owns y x.heap.size v (trueL f k) ∧ Below x.heap.size x y)) (fun _ i _ => n - (RowKit.intOf i).toNat)
  case atStart => exact ⟨0, by omega, rfl, own_empty _ _ (Nat.le_refl _), (Below.refl _ _).alloc (Nat.le_refl _) _⟩
  case round =>
    obtain ⟨k, hk, rfl, HR⟩ := hrel
    by_cases hlt : k < n
    · have hki : (k : Int) < (n : Int) := by omega
      have HT2 := HT.out.later HR.out.2
      have q0 := HT2.c k hlt
      have ql := HT2.lt
      have hlen := trueL_len f k
      clear HT2
      cases hfk : f k
      · have HN : Hid (trueL f (k + 1) = trueL f k) := trueL_no hfk
        rw [hfk] at q0
        clear hfk
        go_wp2_with fail
        go_roundw
        case rel => exact ⟨k + 1, by omega, by go_num, by rw [HN.out]; exact HR.out.1, HR.out.2⟩
        case measure => simp [RowKit.intOf]; omega
      · have HY : Hid (trueL f (k + 1) = trueL f k ++ [(k : Int)]) := trueL_yes hfk
        rw [hfk] at q0
        clear hfk
        go_wp2_with (at_builtin; refine wpList_append_own _ rfl _ _ 83 rfl x.heap.size 3 i0 (.int .i64 0) 1 8 Tryz.underlying83 HI.out.1 HI.out.2.1 HI.out.2.2.1 HI.out.2.2.2 rfl (by decide) _ _ _ rfl (World.ownsRow.alloc HR.out.1 _) ⟨wr.heap.size, 0, none⟩ 1 1 [.int .i64 k] rfl rfl (own_cell wr _) (by intro u hu; simp at hu; subst hu; rfl) (by unfold maxLen; omega) (by omega) (by have := HR.out.2.size; simp; omega) ?_)
        · intro v' w3 hown' hgrow _
          have hB3 : Below x.heap.size wr w3 := ((Below.refl x.heap.size wr).alloc HR.out.2.size _).grown hgrow (by have := HR.out.2.size; simp; omega) (fun q hq => ((World.ownsRow.alloc HR.out.1 (.cells #[.int .i64 k] 3)).lt q hq).1)
          have HZ : Hid (Owns w3 x.heap.size v' (trueL f (k + 1)) ∧ Below x.heap.size x w3) := ⟨by rw [HY.out]; unfold Owns; simpa using hown', HR.out.2.trans hB3⟩
          clear hown' hgrow hB3 q0 ql HR
          go_wp2
          go_roundw
          case rel => exact ⟨k + 1, by omega, by go_num, HZ⟩
          case measure => simp [RowKit.intOf]; omega
    · obtain rfl : k = n := by omega
      have hki : ¬ (k : Int) < (k : Int) := by omega
      have ql := (HT.out.later HR.out.2).lt
      go_wp2_with fail
      go_ret
      exact ⟨u3, rfl, HR.out.1, HR.out.2⟩

end Go.Proofs.YtlkebkajdlgebaaGreat

/-
  What a procedure calls: the contract of the model's l2Calls.
-/
namespace Go.Proofs.YtlkebkajdlgebaaGreat
open Go.RowKit
set_option linter.unusedVariables false
set_option linter.unusedSimpArgs false

theorem mkBools (n : Nat) (hn : n ≤ 1000) (w : World) : ∃ y, Sem.run Tryz.prog (Instr.makeSlice 123 (.int .i64 n) (.int .i64 n)) w = .ok (.slice (some ⟨w.heap.size, 0, none⟩) n n) y ∧ Tru y w.heap.size n (fun _ => false) ∧ Below w.heap.size w y := by
  obtain ⟨i0, hi, hz0, hz1, hz2⟩ : ∃ i, Tryz.prog.info? 4 = some i ∧ i.zero = some (.bool false) ∧ i.size = 1 ∧ i.bytes = 1 := info_parts (by kernel_rfl)
  have h := run_make (P := Tryz.prog) w 123 4 i0 (.bool false) Tryz.underlying123 hi hz0 .i64 .i64 n n (by omega) (Int.le_refl _) (by rw [hz2]; omega) (by omega)
  rw [hz1] at h
  simp only [Int.toNat_natCast, Nat.mul_one] at h
  refine ⟨_, h, ⟨by simp, fun j hj => ?_, fun j => by simp [go_sem]⟩, (Below.refl _ _).alloc (Nat.le_refl _) _⟩
  have e : ∀ i, [Value.bool false][i % 1]?.getD default = Value.bool false := fun i => by rw [Nat.mod_one]; rfl
  simp [go_sem, madeCells, Value.cells, hj, e]
theorem calledF_next (c : List I4) (k : Nat) (h : k < c.length) (n : Int) : calledF (c.take (k + 1)) n = (calledF (c.take k) n || ((c.getD k i0).1 == 8 && (c.getD k i0).2.2.1 == n)) := by
  rw [take_next c k h]
  simp only [calledF, List.any_append, List.any_cons, List.any_nil, Bool.or_false]

set_option maxRecDepth 100000 in
set_option maxHeartbeats 4000000 in
theorem l2Calls_any (x : World) (B : Nat) (v : Value) (P : List (List I4)) (h : ProgAt x B v P) (hok : progOkF P = true) (k0 : Nat) (hk0 : k0 < P.length) :
    Calls Tryz.prog 52 #[v, .int .i64 k0] x fun e y => ∃ v, e = .returned v ∧ Owns y x.heap.size v (callsL (P.getD k0 []) P.length) ∧ Below x.heap.size x y := by
  obtain ⟨pp, cp, rfl, _⟩ := h.shape
  obtain ⟨g, o, u, rfl, hg, hu, hc⟩ := h.code hk0
  obtain ⟨p, cap, rfl, _⟩ := hc.shape
  have h8 := (progOkF_code hok hk0).1
  have hl4 := (progOkF_len hok).2
  have HI : Hid (∀ j, j < (P.getD k0 []).length → insOkF ((P.getD k0 []).getD j i0) (P.getD k0 []).length P.length = true) := (progOkF_code hok hk0).2
  have HC : Hid (∀ j, j < (P.getD k0 []).length → ∃ g o, p = some ⟨g, o, none⟩ ∧ g < x.heap.size ∧ Ins4 x g (o + j * 4) ((P.getD k0 []).getD j i0)) := fun j hj => hc.ins hj
  clear h hok hc
  rw [callsL_true]
  generalize P.getD k0 [] = c at *
  generalize P.length = n at *
  generalize hln : c.length = ln at *
  have HLN : Hid (c.length = ln) := hln
  clear hln
  have hni : (ln : Int) ≤ 8 := by omega
  have hn4 : (n : Int) ≤ 4 := by omega
  have hkn : (k0 : Int) < (n : Int) := by omega
  obtain ⟨x1, hmk, hT1, hb1⟩ := mkBools n (by omega) x
  have HT1 : Hid (Tru x1 x.heap.size n (fun j => calledF (c.take 0) j)) := hT1
  have HB1 : Hid (Below x.heap.size x x1) := hb1
  have HU : Hid (x.cell? ⟨g, o + k0, none⟩ = some (.slice p ln cap)) := hu
  have u1 := (hb1.cell (p := ⟨g, o + k0, none⟩) hg).trans hu
  have hg1 : g < x1.heap.size := Nat.lt_of_lt_of_le hg hb1.size
  clear hT1 hb1 hu
  go_enter Tryz.func52, Tryz.ntmps52
  go_wp2_with fail
  go_loopw [6] (fun i wr => ∃ k : Nat, k ≤ ln ∧ i = .int .i64 k ∧ Hid (Below x.heap.size x wr ∧ Tru wr x.heap.size n (fun j => calledF (c.take k) j))) (fun i _ => ln - (RowKit.intOf i).toNat)
  case atStart => exact ⟨0, by omega, rfl, HB1.out, HT1.out⟩
  case round =>
    obtain ⟨k, hk, rfl, HR⟩ := hrel
    have v1 := (HR.out.1.cell (p := ⟨g, o + k0, none⟩) hg).trans HU.out
    have hg2 : g < wr.heap.size := Nat.lt_of_lt_of_le hg HR.out.1.size
    clear u1 hg1
    by_cases hlt : k < ln
    · have hki : (k : Int) < (ln : Int) := by omega
      obtain ⟨g1, o1, rfl, hg1, hI⟩ := HC.out k hlt
      have hI2 := hI.later HR.out.1 hg1
      have hg3 : g1 < wr.heap.size := Nat.lt_of_lt_of_le hg1 HR.out.1.size
      have HOK := HI.out k hlt
      have HN : Hid (∀ n : Int, calledF (c.take (k + 1)) n = (calledF (c.take k) n || ((c.getD k i0).1 == 8 && (c.getD k i0).2.2.1 == n))) := fun n => calledF_next c k (by rw [HLN.out]; exact hlt) n
      clear hI
      generalize c.getD k i0 = I at *
      obtain ⟨q0, q1, q2, q3⟩ := hI2
      by_cases hk8 : I.1 = 8
      · obtain ⟨b, hb, hbn⟩ : ∃ b : Nat, I.2.2.1 = b ∧ b < n := by
          obtain ⟨I0, I1, I2, I3⟩ := I
          simp only at hk8
          subst hk8
          have hb : inI I2 0 (n - 1) = true := by
            simp only [insOkF] at HOK
            rw [if_neg (by omega), if_neg (by omega), if_neg (by omega), if_neg (by omega), if_neg (by omega), if_neg (by omega), if_pos trivial] at HOK
            simp only [Bool.and_eq_true] at HOK
            exact HOK.1.2
          simp only [inI, Bool.and_eq_true, decide_eq_true_eq] at hb
          exact ⟨I2.toNat, by show I2 = _; omega, by omega⟩
        have HN2 : Hid (∀ j : Nat, calledF (c.take (k + 1)) j = (j == b || calledF (c.take k) j)) := fun j => by
          rw [HN.out, hk8, hb]
          simp only [beq_self_eq_true, Bool.true_and]
          have e : ((b : Int) == (j : Int)) = (j == b) := by
            by_cases e : j = b
            · subst e; simp
            · have e2 : ¬ (b : Int) = (j : Int) := by omega
              have e3 : ((b : Int) == (j : Int)) = false := by simpa using e2
              have e4 : (j == b) = false := by simpa using e
              rw [e3, e4]
          rw [e, Bool.or_comm]
        rw [hk8] at q0
        rw [hb] at q2
        have hbi : (b : Int) < (n : Int) := by omega
        have tb := HR.out.2.c b hbn
        have tl := HR.out.2.lt
        have tf := HR.out.2.fz b
        clear HOK HN hk8 hb
        go_wp2_with fail
        have HZ : Hid (Below x.heap.size x (wr.setCell ⟨x.heap.size, b, none⟩ (.bool true)) ∧ Tru (wr.setCell ⟨x.heap.size, b, none⟩ (.bool true)) x.heap.size n (fun j => calledF (c.take (k + 1)) j)) := by
          refine ⟨HR.out.1.setCell (Nat.le_refl _) _, ?_⟩
          have e : (fun j : Nat => calledF (c.take (k + 1)) (j : Int)) = (fun j => j == b || calledF (c.take k) j) := funext HN2.out
          rw [e]
          exact HR.out.2.set b hbn
        go_roundw
        case rel => exact ⟨k + 1, by omega, by go_num, HZ⟩
        case measure => simp [RowKit.intOf]; omega
      · have e8 : (I.1 == 8) = false := by simpa using hk8
        have HN2 : Hid (∀ j : Nat, calledF (c.take (k + 1)) j = calledF (c.take k) j) := fun j => by
          rw [HN.out, e8, Bool.false_and, Bool.or_false]
        clear HOK HN hk8
        go_wp2_with fail
        have HZ : Hid (Below x.heap.size x wr ∧ Tru wr x.heap.size n (fun j => calledF (c.take (k + 1)) j)) := by
          refine ⟨HR.out.1, ?_⟩
          have e : (fun j : Nat => calledF (c.take (k + 1)) (j : Int)) = (fun j : Nat => calledF (c.take k) j) := funext HN2.out
          rw [e]
          exact HR.out.2
        go_roundw
        case rel => exact ⟨k + 1, by omega, by go_num, HZ⟩
        case measure => simp [RowKit.intOf]; omega
    · obtain rfl : k = ln := by omega
      have hki : ¬ (k : Int) < (k : Int) := by omega
      have HT : Hid (Tru wr x.heap.size n (fun j => calledF c j)) := by
        have := HR.out.2
        rw [List.take_of_length_le (by rw [HLN.out]; exact Nat.le_refl _)] at this
        exact this
      go_wp2_with fail
      refine (l2True_any wr _ n _ n HT.out (by omega)).mono ?_
      rintro e y ⟨v, rfl, hown, hb⟩
      have HO : Hid (Owns y x.heap.size v (trueL (fun j => calledF c j) n) ∧ Below x.heap.size x y) := ⟨hown.lower HR.out.1.size, HR.out.1.trans (hb.mono HR.out.1.size)⟩
      clear hown hb HR HT
      go_wp2_with fail
      go_ret
      exact ⟨v, rfl, HO.out.1, HO.out.2⟩

end Go.Proofs.YtlkebkajdlgebaaGreat
