import Derived.Test.YtlkebkajdlgebaaB26
import Derived.Test.YtlkebkajdlgebaaB27
import Derived.Shelf.SortM.Plain
import Derived.Shelf.SortM.SortNone
import Derived.Test.YtlkebkajdlgebaaB17
import Derived.Test.YtlkebkajdlgebaaB20
import Derived.Test.YtlkebkajdlgebaaB23
import Derived.WalkArith
/-
  A set of numbers: its numbers ascending (ascending), one more (add).
-/
namespace Go.Proofs.Ytlkebkajdlgebaa
open Go.RowKit Go.Maps Go.Sort Go.Shelf
set_option linter.unusedVariables false
set_option linter.unusedSimpArgs false

theorem sorts_lay (m : Nat) : AnyZI.SortsIn Try.prog lay_sortedA_ren Fence.wide m :=
  ⟨fun blk off cap ss W hH hblk hsz => callsIn_wide.2 (AnyM.slices_Sort_int lay_sortA blk off cap ss W hH hblk hsz),
   fun p cap W => callsIn_wide.2 (AnyM.slices_Sort_int_none lay_sortA p cap W)⟩

set_option maxHeartbeats 1000000 in
/-- a set's numbers, ascending -/
theorem ascending_any (b nn : Nat) (D0 : DataW Unit) (w : World) (hown : w.ownsMap Try.prog 3 (unitElem (H := Unit)) b nn D0) (hn : nn ≤ 1000) :
    Calls Try.prog 38 #[.map (some b)] w fun e w' => ∃ (v : Value) (ss : List Int), e = .returned v ∧ ss.Perm (intKeys D0) ∧
      w'.ownsRow w.heap.size 3 1 v ss.length ((ss.mergeSort (fun x y => decide (x ≤ y))).map encZ) ∧ Below w.heap.size w w' := by
  have hs1 := hown.size_le
  have hmax : Maps.size D0 ≤ maxLen := by unfold maxLen; omega
  have hbytes : Maps.size D0 * 8 ≤ 140737488355328 := by omega
  refine (callsIn_wide (n := 6)).1 ?_
  have hbl := hown.lt
  have hseq : SeqGives Fence.wide 2 Try.prog 52 #[.pointer (some ⟨w.heap.size, 0, none⟩)] encZ (fun ss => ss.Perm (intKeys D0)) (Maps.size D0) (w.alloc (.cells #[.map (some b)] 67)) :=
    AnyZI.keys_gives (ρ := lay_keysA_ren) { lay_keysA with } Fence.wide _ trivial rfl (by omega) w.heap.size b nn D0 _ (by simp) (by simp) (by
      obtain ⟨es, clock, hb, Ft, hs, hD⟩ := hown
      exact ⟨es, clock, (Below.heap_alloc _ _ b hbl).trans hb, Ft, hs, hD⟩)
  have cK : ∀ mb W, CallsIn Fence.wide 5 Try.prog 45 #[.map mb] W fun e w' => e = .returned (.func (.func 52) #[] #[.pointer (some ⟨W.heap.size, 0, none⟩)]) ∧ w' = W.alloc (.cells #[.map mb] 67) := fun mb W => AnyZI.keys_in lay_keysA Fence.wide 5 trivial rfl mb W
  have cS := AnyZI.sorted_in lay_sortedA Fence.wide 5 trivial trivial trivial trivial rfl (by omega) (sorts_lay _) (enters_of Try.func51 (by kernel_rfl) rfl) 52 #[.pointer (some ⟨w.heap.size, 0, none⟩)] trivial (enters_of Try.func52 (by kernel_rfl) rfl) _ _ hmax hbytes _ hseq
  change CallsIn _ _ Try.prog 44 _ _ _ at cS
  have hfK : Fence.wide.fn 45 := trivial
  have hfS : Fence.wide.fn 44 := trivial
  refine callsIn_of_wp Try.func38 rfl trivial ?_ rfl
  simp only [Try.ntmps38, List.size_toArray, List.length_cons, List.length_nil, Nat.reduceAdd, Nat.reduceSub, Array.replicate_succ, Array.replicate_zero, List.push_toArray, List.append_toArray, List.nil_append, List.cons_append]
  gi_wp2_with (first
    | (gi_at_call 45; refine (cK _ _).mono ?_; rintro e w' ⟨rfl, rfl⟩)
    | (gi_at_call 44; refine cS.mono ?_; rintro e w' ⟨v, ss, rfl, hS, hrow, hnil, hb⟩))
  go_ret
  exact ⟨v, ss, rfl, hS, ownsRow_base_a hrow (by simp), ((Below.refl _ w).alloc (Nat.le_refl _) _).trans (hb.mono (by simp))⟩

theorem keyInt : Keyed Try.prog 3 := int_keyed Try.underlying3
/-- one more -/
theorem setAdd_any (y : World) (b n : Nat) (D : DataW Unit) (hown : y.ownsMap Try.prog 3 (unitElem (H := Unit)) b n D) (hn : n < 1000) (k : Int) (hk : (Lit.int .i64 k).wf = true) :
    Calls Try.prog 37 #[.map (some b), .int .i64 k] y fun e z => e = .returned (.tuple #[]) ∧ z.ownsMap Try.prog 3 (unitElem (H := Unit)) b (n + 1) (D.put (.int .i64 k) (.agg [])) ∧ y.grownBy z (some b) := by
  have hkey : keyOf Try.prog 3 (.int .i64 k) = some (.int .i64 k) := keyOf_int_mk Try.underlying3 hk
  go_enter Try.func37, Try.ntmps37
  go_wp2_with (at_mapUpdate; refine wpList_mapUpdate_own _ rfl _ _ _ 67 rfl 3 102 keyInt Try.underlying67 (unitElem (H := Unit)) b n D rfl hown (by unfold maxLen; omega) _ _ _ rfl rfl hkey _ [] unitElem_mk ?_; intro w1 hown1 hgrow1)
  go_end0
  exact ⟨rfl, hown1, hgrow1⟩

end Go.Proofs.Ytlkebkajdlgebaa

/-
  What a procedure calls: the contract of the program's callsOf.
-/
namespace Go.Proofs.Ytlkebkajdlgebaa
open Go.RowKit
set_option linter.unusedVariables false
set_option linter.unusedSimpArgs false

theorem called_in {c : List I4} {m : Nat} (hins : ∀ j, j < c.length → insOkF (c.getD j i0) c.length m = true) (x : Int) (h : calledF c x = true) : 0 ≤ x ∧ x < m := by
  simp only [calledF, List.any_eq_true, Bool.and_eq_true, beq_iff_eq] at h
  obtain ⟨i, hi, h1, h2⟩ := h
  obtain ⟨j, hj, rfl⟩ := List.getElem_of_mem hi
  have h3 := hins j hj
  have e : c.getD j i0 = c[j] := by simp [List.getD_eq_getElem?_getD, List.getElem?_eq_getElem hj]
  rw [e] at h3
  simp only [insOkF] at h3
  rw [if_neg (by omega), if_neg (by omega), if_neg (by omega), if_neg (by omega), if_neg (by omega), if_neg (by omega), if_pos h1] at h3
  simp only [Bool.and_eq_true, inI, decide_eq_true_eq] at h3
  omega

set_option maxRecDepth 100000 in
set_option maxHeartbeats 4000000 in
theorem callsOf_set (x : World) (B : Nat) (uc : Value) (c : List I4) (h : CodeAt x B uc c) (m : Nat) (hins : ∀ j, j < c.length → insOkF (c.getD j i0) c.length m = true) (h8 : c.length ≤ 8) (hm4 : m ≤ 4) :
    Calls Try.prog 23 #[.agg #[uc]] x fun e y => ∃ v, e = .returned v ∧ Owns y (x.heap.size + 2) v (callsL c m) ∧ Below x.heap.size x y := by
  have hmm := @run_makeMap Try.prog
  obtain ⟨p, cap, rfl, _⟩ := h.shape
  have HC : Hid (∀ j, j < c.length → ∃ g o, p = some ⟨g, o, none⟩ ∧ g < x.heap.size ∧ Ins4 x g (o + j * 4) (c.getD j i0)) := fun j hj => h.ins hj
  have HI : Hid (∀ j, j < c.length → insOkF (c.getD j i0) c.length m = true) := hins
  clear h hins
  generalize hln : c.length = ln at *
  have HLN : Hid (c.length = ln) := hln
  clear hln
  have hni : (ln : Int) ≤ 8 := by omega
  go_enter Try.func23, Try.ntmps23
  go_wp2_with fail
  go_loopw [11] (fun i wr => ∃ k : Nat, k ≤ ln ∧ i = .int .i64 k ∧ Hid (Below x.heap.size x wr ∧ wr.ownsMap Try.prog 3 (unitElem (H := Unit)) (x.heap.size + 1) k (setD c k)) ∧ x.heap.size + 2 ≤ wr.heap.size) (fun i _ => ln - (intOf i).toNat)
  case atStart =>
    refine ⟨0, by omega, rfl, ⟨((Below.refl _ _).alloc (Nat.le_refl _) _).alloc (by simp) _, ?_⟩, by simp⟩
    have := World.ownsMap_made (x.alloc (.cells #[.slice p ln cap] 39)) Try.prog 3 (unitElem (H := Unit))
    rw [setD_zero]
    simpa using this
  case round =>
    obtain ⟨k, hk, rfl, HR, hsz⟩ := hrel
    by_cases hlt : k < ln
    · have hki : (k : Int) < (ln : Int) := by omega
      obtain ⟨g, o, rfl, hg, hI⟩ := HC.out k hlt
      have hI2 := hI.later HR.out.1 hg
      have hg2 : g < wr.heap.size := by omega
      have HOK := HI.out k hlt
      have HN : Hid (k < c.length) := by show _ < _; rw [HLN.out]; exact hlt
      have HSC : Hid ((c.getD k i0).1 = 8 → setD c (k + 1) = (setD c k).put (.int .i64 (c.getD k i0).2.2.1) (.agg [])) := fun e => setD_call c k HN.out e
      have HSN : Hid ((c.getD k i0).1 ≠ 8 → setD c (k + 1) = setD c k) := fun e => setD_other c k HN.out e
      clear HN hI
      generalize c.getD k i0 = I at *
      obtain ⟨q0, q1, q2, q3⟩ := hI2
      have HIO : Hid (∀ z : World, Calls Try.prog 36 #[aggI I] z fun e w' => e = .returned (ifcF I) ∧ Below z.heap.size z w') := fun z => instructionOf_any I z
      by_cases hk8 : I.1 = 8
      · have hty : ∀ w, _ := tc_yes I hk8
        have HW : Hid ((Lit.int .i64 I.2.2.1).wf = true) := by
          obtain ⟨I0, I1, I2, I3⟩ := I
          simp only at hk8
          subst hk8
          have hb : inI I2 0 (m - 1) = true := by
            simp only [insOkF] at HOK
            rw [if_neg (by omega), if_neg (by omega), if_neg (by omega), if_neg (by omega), if_neg (by omega), if_neg (by omega), if_pos trivial] at HOK
            simp only [Bool.and_eq_true] at HOK
            exact HOK.1.2
          simp only [inI, Bool.and_eq_true, decide_eq_true_eq] at hb
          show (Lit.int .i64 I2).wf = true
          exact WalkArith.wf_i64 (by omega)
        have HD : Hid (_ = _) := HSC.out hk8
        clear HSC HSN HOK HI hk8
        go_wp2_with fail
        have HX : Hid (Below x.heap.size x (wr.alloc (.cells #[.int .i64 I.1, .int .i64 I.2.1, .int .i64 I.2.2.1, .int .i64 I.2.2.2] 41)) ∧ (wr.alloc (.cells #[.int .i64 I.1, .int .i64 I.2.1, .int .i64 I.2.2.1, .int .i64 I.2.2.2] 41)).ownsMap Try.prog 3 (unitElem (H := Unit)) (x.heap.size + 1) k (setD c k) ∧ x.heap.size + 2 ≤ (wr.alloc (.cells #[.int .i64 I.1, .int .i64 I.2.1, .int .i64 I.2.2.1, .int .i64 I.2.2.2] 41)).heap.size) := ⟨HR.out.1.alloc (by omega) _, HR.out.2.alloc _, by simp; omega⟩
        generalize wr.alloc (.cells #[.int .i64 I.1, .int .i64 I.2.1, .int .i64 I.2.2.1, .int .i64 I.2.2.2] 41) = X at HX ⊢
        refine (HIO.out X).mono ?_
        rintro e y ⟨rfl, hb⟩
        have HY : Hid (Below x.heap.size x y ∧ y.ownsMap Try.prog 3 (unitElem (H := Unit)) (x.heap.size + 1) k (setD c k) ∧ x.heap.size + 2 ≤ y.heap.size) := ⟨HX.out.1.trans (hb.mono HX.out.1.size), HX.out.2.1.kept (row := none) ⟨hb.os, hb.tape, hb.output, hb.size, fun k hk _ => hb.block k hk⟩ (by simp), by have := hb.size; have := HX.out.2.2; omega⟩
        clear HX hb HR
        go_wp2_with fail
        have HX2 : Hid (Below x.heap.size x (y.alloc (.cells #[.int .i64 I.2.1, .int .i64 I.2.2.1, .int .i64 I.2.2.2] 72)) ∧ (y.alloc (.cells #[.int .i64 I.2.1, .int .i64 I.2.2.1, .int .i64 I.2.2.2] 72)).ownsMap Try.prog 3 (unitElem (H := Unit)) (x.heap.size + 1) k (setD c k) ∧ x.heap.size + 2 ≤ (y.alloc (.cells #[.int .i64 I.2.1, .int .i64 I.2.2.1, .int .i64 I.2.2.2] 72)).heap.size) := ⟨HY.out.1.alloc HY.out.1.size _, HY.out.2.1.alloc _, by have := HY.out.2.2; simp; omega⟩
        generalize y.alloc (.cells #[.int .i64 I.2.1, .int .i64 I.2.2.1, .int .i64 I.2.2.2] 72) = X at HX2 ⊢
        refine (setAdd_any X _ k _ HX2.out.2.1 (by omega) _ HW.out).mono ?_
        rintro e z ⟨rfl, hown, hgrow⟩
        have HZ : Hid (Below x.heap.size x z ∧ z.ownsMap Try.prog 3 (unitElem (H := Unit)) (x.heap.size + 1) (k + 1) (setD c (k + 1))) := ⟨HX2.out.1.grown hgrow HX2.out.1.size (fun j e => by cases e; omega), by rw [HD.out]; exact hown⟩
        have hzs : x.heap.size + 2 ≤ z.heap.size := Nat.le_trans HX2.out.2.2 hgrow.size
        clear hown hgrow HX2 HY HD hty q0 q1 q2 q3
        go_wp2_with fail
        go_roundw
        case rel => exact ⟨k + 1, by omega, by go_num, HZ, hzs⟩
        case measure => simp [intOf]; omega
      · have htn : ∀ w, _ := tc_no I hk8
        have HD : Hid (_ = _) := HSN.out hk8
        clear HSC HSN HOK HI hk8
        go_wp2_with fail
        have HX : Hid (Below x.heap.size x (wr.alloc (.cells #[.int .i64 I.1, .int .i64 I.2.1, .int .i64 I.2.2.1, .int .i64 I.2.2.2] 41)) ∧ (wr.alloc (.cells #[.int .i64 I.1, .int .i64 I.2.1, .int .i64 I.2.2.1, .int .i64 I.2.2.2] 41)).ownsMap Try.prog 3 (unitElem (H := Unit)) (x.heap.size + 1) k (setD c k) ∧ x.heap.size + 2 ≤ (wr.alloc (.cells #[.int .i64 I.1, .int .i64 I.2.1, .int .i64 I.2.2.1, .int .i64 I.2.2.2] 41)).heap.size) := ⟨HR.out.1.alloc (by omega) _, HR.out.2.alloc _, by simp; omega⟩
        generalize wr.alloc (.cells #[.int .i64 I.1, .int .i64 I.2.1, .int .i64 I.2.2.1, .int .i64 I.2.2.2] 41) = X at HX ⊢
        refine (HIO.out X).mono ?_
        rintro e y ⟨rfl, hb⟩
        have HY : Hid (Below x.heap.size x y ∧ y.ownsMap Try.prog 3 (unitElem (H := Unit)) (x.heap.size + 1) k (setD c k) ∧ x.heap.size + 2 ≤ y.heap.size) := ⟨HX.out.1.trans (hb.mono HX.out.1.size), HX.out.2.1.kept (row := none) ⟨hb.os, hb.tape, hb.output, hb.size, fun k hk _ => hb.block k hk⟩ (by simp), by have := hb.size; have := HX.out.2.2; omega⟩
        clear HX hb HR
        go_wp2_with fail
        have HZ : Hid (Below x.heap.size x y ∧ y.ownsMap Try.prog 3 (unitElem (H := Unit)) (x.heap.size + 1) (k + 1) (setD c (k + 1))) := ⟨HY.out.1, by rw [HD.out]; exact HY.out.2.1.mono (by omega)⟩
        have hzs : x.heap.size + 2 ≤ y.heap.size := HY.out.2.2
        go_roundw
        case rel => exact ⟨k + 1, by omega, by go_num, HZ, hzs⟩
        case measure => simp [intOf]; omega
    · obtain rfl : k = ln := by omega
      have hki : ¬ (k : Int) < (k : Int) := by omega
      have HE : Hid (∀ x : Int, calledF c x = true → 0 ≤ x ∧ x < m) := fun x hx => called_in (fun j hj => by have := HI.out j (by rw [← HLN.out]; exact hj); rw [HLN.out]; exact this) x hx
      clear HI HC
      go_wp2_with fail
      refine (ascending_any _ k _ wr HR.out.2 (by omega)).mono ?_
      rintro e y ⟨v, ss, rfl, hp, hrow, hb⟩
      have hown := HR.out.2
      have hl : setD c k = setD c c.length := by rw [HLN.out]
      rw [hl] at hp hown
      have hss := sorted_calls c m HE.out ss Try.underlying3 hown hp
      have hlen : ss.length = (callsL c m).length := by rw [← hss]; simp
      rw [hss, hlen] at hrow
      have HO : Hid (Owns y (x.heap.size + 2) v (callsL c m)) := Owns.lower (B := wr.heap.size) hrow hsz
      have HB : Hid (Below x.heap.size x y) := HR.out.1.trans (hb.mono HR.out.1.size)
      clear hown hl hp hss hlen hrow hb HR HE
      go_wp2_with fail
      go_ret
      exact ⟨v, rfl, HO.out, HB.out⟩

end Go.Proofs.Ytlkebkajdlgebaa
