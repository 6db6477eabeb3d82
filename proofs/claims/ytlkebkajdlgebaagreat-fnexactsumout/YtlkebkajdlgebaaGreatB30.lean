import Derived.Test.YtlkebkajdlgebaaGreatB29
import Derived.Test.YtlkebkajdlgebaaGreatB28
import Derived.Shelf.SortM.Plain
import Derived.Shelf.SortM.SortNone
import Derived.Test.YtlkebkajdlgebaaGreatB25
import Derived.Test.YtlkebkajdlgebaaGreatB5
import Derived.WalkArith
import Derived.Test.YtlkebkajdlgebaaGreatB21
import Derived.Test.YtlkebkajdlgebaaGreatB23
/-
  A set of numbers: its numbers ascending (ascending), one more (add).
-/
namespace Go.Proofs.YtlkebkajdlgebaaGreat
open Go.RowKit Go.Maps Go.Sort Go.Shelf
set_option linter.unusedVariables false
set_option linter.unusedSimpArgs false

theorem sorts_lay (m : Nat) : AnyZI.SortsIn Tryz.prog lay_sortedA_ren Fence.wide m :=
  ⟨fun blk off cap ss W hH hblk hsz => callsIn_wide.2 (AnyM.slices_Sort_int lay_sortA blk off cap ss W hH hblk hsz),
   fun p cap W => callsIn_wide.2 (AnyM.slices_Sort_int_none lay_sortA p cap W)⟩

set_option maxHeartbeats 1000000 in
/-- a set's numbers, ascending -/
theorem ascending_any (b nn : Nat) (D0 : DataW Unit) (w : World) (hown : w.ownsMap Tryz.prog 3 (unitElem (H := Unit)) b nn D0) (hn : nn ≤ 1000) :
    Calls Tryz.prog 125 #[.map (some b)] w fun e w' => ∃ (v : Value) (ss : List Int), e = .returned v ∧ ss.Perm (intKeys D0) ∧
      w'.ownsRow w.heap.size 3 1 v ss.length ((ss.mergeSort (fun x y => decide (x ≤ y))).map encZ) ∧ Below w.heap.size w w' := by
  have hs1 := hown.size_le
  have hmax : Maps.size D0 ≤ maxLen := by unfold maxLen; omega
  have hbytes : Maps.size D0 * 8 ≤ 140737488355328 := by omega
  refine (callsIn_wide (n := 6)).1 ?_
  have hbl := hown.lt
  have hseq : SeqGives Fence.wide 2 Tryz.prog 131 #[.pointer (some ⟨w.heap.size, 0, none⟩)] encZ (fun ss => ss.Perm (intKeys D0)) (Maps.size D0) (w.alloc (.cells #[.map (some b)] 147)) :=
    AnyZI.keys_gives (ρ := lay_keysA_ren) { lay_keysA with } Fence.wide _ trivial rfl (by omega) w.heap.size b nn D0 _ (by simp) (by simp) (by
      obtain ⟨es, clock, hb, Ft, hs, hD⟩ := hown
      exact ⟨es, clock, (Below.heap_alloc _ _ b hbl).trans hb, Ft, hs, hD⟩)
  have cK : ∀ mb W, CallsIn Fence.wide 5 Tryz.prog 128 #[.map mb] W fun e w' => e = .returned (.func (.func 131) #[] #[.pointer (some ⟨W.heap.size, 0, none⟩)]) ∧ w' = W.alloc (.cells #[.map mb] 147) := fun mb W => AnyZI.keys_in lay_keysA Fence.wide 5 trivial rfl mb W
  have cS := AnyZI.sorted_in lay_sortedA Fence.wide 5 trivial trivial trivial trivial rfl (by omega) (sorts_lay _) (enters_of Tryz.func130 (by kernel_rfl) rfl) 131 #[.pointer (some ⟨w.heap.size, 0, none⟩)] trivial (enters_of Tryz.func131 (by kernel_rfl) rfl) _ _ hmax hbytes _ hseq
  change CallsIn _ _ Tryz.prog 127 _ _ _ at cS
  have hfK : Fence.wide.fn 128 := trivial
  have hfS : Fence.wide.fn 127 := trivial
  refine callsIn_of_wp Tryz.func125 rfl trivial ?_ rfl
  simp only [Tryz.ntmps125, List.size_toArray, List.length_cons, List.length_nil, Nat.reduceAdd, Nat.reduceSub, Array.replicate_succ, Array.replicate_zero, List.push_toArray, List.append_toArray, List.nil_append, List.cons_append]
  gi_wp2_with (first
    | (gi_at_call 128; refine (cK _ _).mono ?_; rintro e w' ⟨rfl, rfl⟩)
    | (gi_at_call 127; refine cS.mono ?_; rintro e w' ⟨v, ss, rfl, hS, hrow, hnil, hb⟩))
  go_ret
  exact ⟨v, ss, rfl, hS, ownsRow_base_a hrow (by simp), ((Below.refl _ w).alloc (Nat.le_refl _) _).trans (hb.mono (by simp))⟩

theorem keyInt : Keyed Tryz.prog 3 := int_keyed Tryz.underlying3
/-- one more -/
theorem setAdd_any (y : World) (b n : Nat) (D : DataW Unit) (hown : y.ownsMap Tryz.prog 3 (unitElem (H := Unit)) b n D) (hn : n < 1000) (k : Int) (hk : (Lit.int .i64 k).wf = true) :
    Calls Tryz.prog 100 #[.map (some b), .int .i64 k] y fun e z => e = .returned (.tuple #[]) ∧ z.ownsMap Tryz.prog 3 (unitElem (H := Unit)) b (n + 1) (D.put (.int .i64 k) (.agg [])) ∧ y.grownBy z (some b) := by
  have hkey : keyOf Tryz.prog 3 (.int .i64 k) = some (.int .i64 k) := keyOf_int_mk Tryz.underlying3 hk
  go_enter Tryz.func100, Tryz.ntmps100
  go_wp2_with (at_mapUpdate; refine wpList_mapUpdate_own _ rfl _ _ _ 147 rfl 3 190 keyInt Tryz.underlying147 (unitElem (H := Unit)) b n D rfl hown (by unfold maxLen; omega) _ _ _ rfl rfl hkey _ [] unitElem_mk ?_; intro w1 hown1 hgrow1)
  go_end0
  exact ⟨rfl, hown1, hgrow1⟩

end Go.Proofs.YtlkebkajdlgebaaGreat

/-
  What a procedure calls: the contract of the program's callsOf.
-/
namespace Go.Proofs.YtlkebkajdlgebaaGreat
open Go.RowKit
set_option linter.unusedVariables false
set_option linter.unusedSimpArgs false

theorem called_in {c : List I4} {m : Nat} (hins : ∀ j, j < c.length → insOkF (c.getD j i0) c.length m = true) (x : Int) (h : calledF c x = true) : 0 ≤ x ∧ x < m := by
  simp only [calledF, List.any_eq_true, Bool.and_eq_true, beq_iff_eq] at h
  obtain ⟨i, hi, h1, h2⟩ := h
  obtain ⟨j, hj, rfl⟩ := List.getElem_of_mem hi
  have h3 := hins j hj
  have e : c.getD j i0 = c[j] := by simp [List.getD_eq_getElem?_getD, List.getElem?_eq_getElem hj]
  rw [e] at h3
  simp only [insOkF] at h3
  rw [if_neg (by omega), if_neg (by omega), if_neg (by omega), if_neg (by omega), if_neg (by omega), if_neg (by omega), if_pos h1] at h3
  simp only [Bool.and_eq_true, inI, decide_eq_true_eq] at h3
  omega

set_option maxRecDepth 100000 in
set_option maxHeartbeats 4000000 in
theorem callsOf_set (x : World) (B : Nat) (uc : Value) (c : List I4) (h : CodeAt x B uc c) (m : Nat) (hins : ∀ j, j < c.length → insOkF (c.getD j i0) c.length m = true) (h8 : c.length ≤ 8) (hm4 : m ≤ 4) :
    Calls Tryz.prog 108 #[.agg #[uc]] x fun e y => ∃ v, e = .returned v ∧ Owns y (x.heap.size + 2) v (callsL c m) ∧ Below x.heap.size x y := by
  have hmm := @run_makeMap Tryz.prog
  obtain ⟨p, cap, rfl, _⟩ := h.shape
  have HC : Hid (∀ j, j < c.length → ∃ g o, p = some ⟨g, o, none⟩ ∧ g < x.heap.size ∧ Ins4 x g (o + j * 4) (c.getD j i0)) := fun j hj => h.ins hj
  have HI : Hid (∀ j, j < c.length → insOkF (c.getD j i0) c.length m = true) := hins
  clear h hins
  generalize hln : c.length = ln at *
  have HLN : Hid (c.length = ln) := hln
  clear hln
  have hni : (ln : Int) ≤ 8 := by omega
  go_enter Tryz.func108, Tryz.ntmps108
  go_wp2_with fail
  go_loopw [11] (fun i wr => ∃ k : Nat, k ≤ ln ∧ i = .int .i64 k ∧ Hid (Below x.heap.size x wr ∧ wr.ownsMap Tryz.prog 3 (unitElem (H := Unit)) (x.heap.size + 1) k (setD c k)) ∧ x.heap.size + 2 ≤ wr.heap.size) (fun i _ => ln - (intOf i).toNat)
  case atStart =>
    refine ⟨0, by omega, rfl, ⟨((Below.refl _ _).alloc (Nat.le_refl _) _).alloc (by simp) _, ?_⟩, by simp⟩
    have := World.ownsMap_made (x.alloc (.cells #[.slice p ln cap] 74)) Tryz.prog 3 (unitElem (H := Unit))
    rw [setD_zero]
    simpa using this
  case round =>
    obtain ⟨k, hk, rfl, HR, hsz⟩ := hrel
    by_cases hlt : k < ln
    · have hki : (k : Int) < (ln : Int) := by omega
      obtain ⟨g, o, rfl, hg, hI⟩ := HC.out k hlt
      have hI2 := hI.later HR.out.1 hg
      have hg2 : g < wr.heap.size := by omega
      have HOK := HI.out k hlt
      have HN : Hid (k < c.length) := by show _ < _; rw [HLN.out]; exact hlt
      have HSC : Hid ((c.getD k i0).1 = 8 → setD c (k + 1) = (setD c k).put (.int .i64 (c.getD k i0).2.2.1) (.agg [])) := fun e => setD_call c k HN.out e
      have HSN : Hid ((c.getD k i0).1 ≠ 8 → setD c (k + 1) = setD c k) := fun e => setD_other c k HN.out e
      clear HN hI
      generalize c.getD k i0 = I at *
      obtain ⟨q0, q1, q2, q3⟩ := hI2
      have HIO : Hid (∀ z : World, Calls Tryz.prog 79 #[aggI I] z fun e w' => e = .returned (ifcF I) ∧ Below z.heap.size z w') := fun z => instructionOf_any I z
      by_cases hk8 : I.1 = 8
      · have hty : ∀ w, _ := tc_yes I hk8
        have HW : Hid ((Lit.int .i64 I.2.2.1).wf = true) := by
          obtain ⟨I0, I1, I2, I3⟩ := I
          simp only at hk8
          subst hk8
          have hb : inI I2 0 (m - 1) = true := by
            simp only [insOkF] at HOK
            rw [if_neg (by omega), if_neg (by omega), if_neg (by omega), if_neg (by omega), if_neg (by omega), if_neg (by omega), if_pos trivial] at HOK
            simp only [Bool.and_eq_true] at HOK
            exact HOK.1.2
          simp only [inI, Bool.and_eq_true, decide_eq_true_eq] at hb
          show (Lit.int .i64 I2).wf = true
          exact WalkArith.wf_i64 (by omega)
        have HD : Hid (_ = _) := HSC.out hk8
        clear HSC HSN HOK HI hk8
        go_wp2_with fail
        have HX : Hid (Below x.heap.size x (wr.alloc (.cells #[.int .i64 I.1, .int .i64 I.2.1, .int .i64 I.2.2.1, .int .i64 I.2.2.2] 104)) ∧ (wr.alloc (.cells #[.int .i64 I.1, .int .i64 I.2.1, .int .i64 I.2.2.1, .int .i64 I.2.2.2] 104)).ownsMap Tryz.prog 3 (unitElem (H := Unit)) (x.heap.size + 1) k (setD c k) ∧ x.heap.size + 2 ≤ (wr.alloc (.cells #[.int .i64 I.1, .int .i64 I.2.1, .int .i64 I.2.2.1, .int .i64 I.2.2.2] 104)).heap.size) := ⟨HR.out.1.alloc (by omega) _, HR.out.2.alloc _, by simp; omega⟩
        generalize wr.alloc (.cells #[.int .i64 I.1, .int .i64 I.2.1, .int .i64 I.2.2.1, .int .i64 I.2.2.2] 104) = X at HX ⊢
        refine (HIO.out X).mono ?_
        rintro e y ⟨rfl, hb⟩
        have HY : Hid (Below x.heap.size x y ∧ y.ownsMap Tryz.prog 3 (unitElem (H := Unit)) (x.heap.size + 1) k (setD c k) ∧ x.heap.size + 2 ≤ y.heap.size) := ⟨HX.out.1.trans (hb.mono HX.out.1.size), HX.out.2.1.kept (row := none) ⟨hb.os, hb.tape, hb.output, hb.size, fun k hk _ => hb.block k hk⟩ (by simp), by have := hb.size; have := HX.out.2.2; omega⟩
        clear HX hb HR
        go_wp2_with fail
        have HX2 : Hid (Below x.heap.size x (y.alloc (.cells #[.int .i64 I.2.1, .int .i64 I.2.2.1, .int .i64 I.2.2.2] 169)) ∧ (y.alloc (.cells #[.int .i64 I.2.1, .int .i64 I.2.2.1, .int .i64 I.2.2.2] 169)).ownsMap Tryz.prog 3 (unitElem (H := Unit)) (x.heap.size + 1) k (setD c k) ∧ x.heap.size + 2 ≤ (y.alloc (.cells #[.int .i64 I.2.1, .int .i64 I.2.2.1, .int .i64 I.2.2.2] 169)).heap.size) := ⟨HY.out.1.alloc HY.out.1.size _, HY.out.2.1.alloc _, by have := HY.out.2.2; simp; omega⟩
        generalize y.alloc (.cells #[.int .i64 I.2.1, .int .i64 I.2.2.1, .int .i64 I.2.2.2] 169) = X at HX2 ⊢
        refine (setAdd_any X _ k _ HX2.out.2.1 (by omega) _ HW.out).mono ?_
        rintro e z ⟨rfl, hown, hgrow⟩
        have HZ : Hid (Below x.heap.size x z ∧ z.ownsMap Tryz.prog 3 (unitElem (H := Unit)) (x.heap.size + 1) (k + 1) (setD c (k + 1))) := ⟨HX2.out.1.grown hgrow HX2.out.1.size (fun j e => by cases e; omega), by rw [HD.out]; exact hown⟩
        have hzs : x.heap.size + 2 ≤ z.heap.size := Nat.le_trans HX2.out.2.2 hgrow.size
        clear hown hgrow HX2 HY HD hty q0 q1 q2 q3
        go_wp2_with fail
        go_roundw
        case rel => exact ⟨k + 1, by omega, by go_num, HZ, hzs⟩
        case measure => simp [intOf]; omega
      · have htn : ∀ w, _ := tc_no I hk8
        have HD : Hid (_ = _) := HSN.out hk8
        clear HSC HSN HOK HI hk8
        go_wp2_with fail
        have HX : Hid (Below x.heap.size x (wr.alloc (.cells #[.int .i64 I.1, .int .i64 I.2.1, .int .i64 I.2.2.1, .int .i64 I.2.2.2] 104)) ∧ (wr.alloc (.cells #[.int .i64 I.1, .int .i64 I.2.1, .int .i64 I.2.2.1, .int .i64 I.2.2.2] 104)).ownsMap Tryz.prog 3 (unitElem (H := Unit)) (x.heap.size + 1) k (setD c k) ∧ x.heap.size + 2 ≤ (wr.alloc (.cells #[.int .i64 I.1, .int .i64 I.2.1, .int .i64 I.2.2.1, .int .i64 I.2.2.2] 104)).heap.size) := ⟨HR.out.1.alloc (by omega) _, HR.out.2.alloc _, by simp; omega⟩
        generalize wr.alloc (.cells #[.int .i64 I.1, .int .i64 I.2.1, .int .i64 I.2.2.1, .int .i64 I.2.2.2] 104) = X at HX ⊢
        refine (HIO.out X).mono ?_
        rintro e y ⟨rfl, hb⟩
        have HY : Hid (Below x.heap.size x y ∧ y.ownsMap Tryz.prog 3 (unitElem (H := Unit)) (x.heap.size + 1) k (setD c k) ∧ x.heap.size + 2 ≤ y.heap.size) := ⟨HX.out.1.trans (hb.mono HX.out.1.size), HX.out.2.1.kept (row := none) ⟨hb.os, hb.tape, hb.output, hb.size, fun k hk _ => hb.block k hk⟩ (by simp), by have := hb.size; have := HX.out.2.2; omega⟩
        clear HX hb HR
        go_wp2_with fail
        have HZ : Hid (Below x.heap.size x y ∧ y.ownsMap Tryz.prog 3 (unitElem (H := Unit)) (x.heap.size + 1) (k + 1) (setD c (k + 1))) := ⟨HY.out.1, by rw [HD.out]; exact HY.out.2.1.mono (by omega)⟩
        have hzs : x.heap.size + 2 ≤ y.heap.size := HY.out.2.2
        go_roundw
        case rel => exact ⟨k + 1, by omega, by go_num, HZ, hzs⟩
        case measure => simp [intOf]; omega
    · obtain rfl : k = ln := by omega
      have hki : ¬ (k : Int) < (k : Int) := by omega
      have HE : Hid (∀ x : Int, calledF c x = true → 0 ≤ x ∧ x < m) := fun x hx => called_in (fun j hj => by have := HI.out j (by rw [← HLN.out]; exact hj); rw [HLN.out]; exact this) x hx
      clear HI HC
      go_wp2_with fail
      refine (ascending_any _ k _ wr HR.out.2 (by omega)).mono ?_
      rintro e y ⟨v, ss, rfl, hp, hrow, hb⟩
      have hown := HR.out.2
      have hl : setD c k = setD c c.length := by rw [HLN.out]
      rw [hl] at hp hown
      have hss := sorted_calls c m HE.out ss Tryz.underlying3 hown hp
      have hlen : ss.length = (callsL c m).length := by rw [← hss]; simp
      rw [hss, hlen] at hrow
      have HO : Hid (Owns y (x.heap.size + 2) v (callsL c m)) := Owns.lower (B := wr.heap.size) hrow hsz
      have HB : Hid (Below x.heap.size x y) := HR.out.1.trans (hb.mono HR.out.1.size)
      clear hown hl hp hss hlen hrow hb HR HE
      go_wp2_with fail
      go_ret
      exact ⟨v, rfl, HO.out, HB.out⟩

end Go.Proofs.YtlkebkajdlgebaaGreat

/-
  Whether a row is ok, as the model asks: site by site, call by call; that it asks what the program asks; the contract of l12Has.
-/
namespace Go.Proofs.YtlkebkajdlgebaaGreat
open Go.RowKit
set_option linter.unusedVariables false
set_option linter.unusedSimpArgs false

def siteG (P : List (List I4)) (p : Int) (S : Nat → Int) (j : Nat) : Bool := siteIs P p S j && (decide (j = 0) || siteLtF (siteS S (j - 1)) (siteS S j))
def callG (q : Int → Bool) (C : Nat → Int) (j : Nat) : Bool := callIs q C j && (decide (j = 0) || callLtF (C ((j - 1) * 2), C ((j - 1) * 2 + 1)) (C (j * 2), C (j * 2 + 1)))
def rowG (P : List (List I4)) (k : Int) (q : Int → Bool) (r : Rw) : Bool := okF r.o.1 r.o.2.1 r.o.2.2 && allB (siteG P k r.S) r.ns && allB (callG q r.C) r.nc

theorem allB_all {ok : Nat → Bool} {n : Nat} : allB ok n = true ↔ ∀ j, j < n → ok j = true := by
  unfold allB
  rw [List.all_eq_true]
  exact ⟨fun h j hj => h j (by simpa using hj), fun h j hj => h j (by simpa using hj)⟩
/-- two conditions, one of each and one of each with the next -/
theorem allB_next {ok nx g : Nat → Bool} {n : Nat} (h0 : ∀ j, g j = (ok j && (decide (j = 0) || nx (j - 1)))) : allB g n = (allB ok n && allB nx (n - 1)) := by
  rw [Bool.eq_iff_iff, Bool.and_eq_true]
  simp only [allB_all]
  constructor
  · intro h
    refine ⟨fun j hj => ?_, fun j hj => ?_⟩
    · have := h j hj
      rw [h0, Bool.and_eq_true] at this
      exact this.1
    · have := h (j + 1) (by omega)
      rw [h0, Bool.and_eq_true] at this
      simpa using this.2
  · rintro ⟨h1, h2⟩ j hj
    rw [h0, h1 j hj, Bool.true_and]
    by_cases e : j = 0
    · simp [e]
    · rw [h2 (j - 1) (by omega)]
      simp
theorem allB_congr {f g : Nat → Bool} {n : Nat} (h : ∀ j, j < n → f j = g j) : allB f n = allB g n := by
  rw [Bool.eq_iff_iff]
  simp only [allB_all]
  exact ⟨fun a j hj => by rw [← h j hj]; exact a j hj, fun a j hj => by rw [h j hj]; exact a j hj⟩
theorem cmpF_lt (a b : Int) : decide (cmpF a b < 0) = decide (a < b) := by
  unfold cmpF
  split
  · simp_all
  · split <;> simp_all
theorem callO_lt (C : Nat → Int) (j : Nat) : decide (callO C j (j + 1) < 0) = callLtF (C (j * 2), C (j * 2 + 1)) (C ((j + 1) * 2), C ((j + 1) * 2 + 1)) := by
  unfold callO orF callLtF
  dsimp only
  generalize C (j * 2) = a
  generalize C (j * 2 + 1) = b
  generalize C ((j + 1) * 2) = c
  generalize C ((j + 1) * 2 + 1) = d
  rcases Int.lt_trichotomy a c with h | rfl | h
  · have : cmpF a c = -1 := by unfold cmpF; rw [if_pos h]
    rw [this]; simp [h]
  · have : cmpF a a = 0 := by unfold cmpF; rw [if_neg (by omega), if_neg (by omega)]
    rw [this]
    simp only [if_true]
    rw [cmpF_lt]
    simp
  · have : cmpF a c = 1 := by unfold cmpF; rw [if_neg (by omega), if_pos h]
    rw [this]
    have h2 : ¬ a < c := by omega
    have h3 : ¬ a = c := by omega
    simp [h2, h3]
theorem siteO_lt (P : List (List I4)) (p : Int) (S : Nat → Int) (j : Nat) (h1 : siteIs P p S j = true) (h2 : siteIs P p S (j + 1) = true) : decide (siteO S j (j + 1) < 0) = siteLtF (siteS S j) (siteS S (j + 1)) := by
  unfold siteIs at h1 h2
  unfold siteO orF siteLtF
  unfold siteS at h1 h2 ⊢
  dsimp only
  generalize S (j * 3) = a at *
  generalize S (j * 3 + 1) = b at *
  generalize S (j * 3 + 2) = c at *
  generalize S ((j + 1) * 3) = d at *
  generalize S ((j + 1) * 3 + 1) = e at *
  generalize S ((j + 1) * 3 + 2) = f at *
  simp only [Bool.and_eq_true, decide_eq_true_eq] at h1 h2
  obtain ⟨rfl, h1⟩ := h1
  obtain ⟨rfl, h2⟩ := h2
  have e0 : cmpF d d = 0 := by unfold cmpF; rw [if_neg (by omega), if_neg (by omega)]
  rw [e0]
  simp only [if_true, ne_eq, not_true_eq_false, if_false]
  rw [cmpF_lt]
  by_cases hbe : b = e
  · subst hbe
    simp only [siteOkF, Bool.and_eq_true, decide_eq_true_eq] at h1 h2
    have hcf : c = f := by rw [← h1.2, ← h2.2]
    subst hcf
    simp
  · simp [hbe]
/-- the model asks what the program asks -/
theorem rowG_eq (P : List (List I4)) (k : Int) (q : Int → Bool) (r : Rw) : rowG P k q r = rowF P k q r := by
  unfold rowG rowF sitesF callsF
  have e1 : allB (callG q r.C) r.nc = (allB (callIs q r.C) r.nc && allB (fun j => decide (callO r.C j (j + 1) < 0)) (r.nc - 1)) := by
    refine allB_next fun j => ?_
    unfold callG
    by_cases e : j = 0
    · simp [e]
    · rw [callO_lt, show j - 1 + 1 = j by omega]
  have e2 : allB (siteG P k r.S) r.ns = (allB (siteIs P k r.S) r.ns && allB (fun j => decide (siteO r.S j (j + 1) < 0)) (r.ns - 1)) := by
    have e3 : allB (siteG P k r.S) r.ns = (allB (siteIs P k r.S) r.ns && allB (fun j => siteLtF (siteS r.S j) (siteS r.S (j + 1))) (r.ns - 1)) := by
      refine allB_next fun j => ?_
      unfold siteG
      by_cases e : j = 0
      · simp [e]
      · rw [show j - 1 + 1 = j by omega]
    rw [e3]
    cases h : allB (siteIs P k r.S) r.ns
    · rfl
    · rw [Bool.true_and, Bool.true_and]
      have h2 := allB_all.1 h
      exact allB_congr fun j hj => (siteO_lt P k r.S j (h2 j (by omega)) (h2 (j + 1) (by omega))).symm
  rw [e1, e2]

set_option maxHeartbeats 2000000 in
theorem l12Has_any (x : World) (u : Value) (L : List Int) (n : Int) (h : IntsW x u L) :
    Calls Tryz.prog 53 #[u, .int .i64 n] x fun e y => e = .returned (.bool (decide (n ∈ L))) ∧ Below x.heap.size x y := by
  obtain ⟨p, cap, rfl, hm, hc⟩ := h
  unfold maxLen at hm
  have hni : (L.length : Int) ≤ 9223372036854775807 := by omega
  clear hm
  generalize hln : L.length = ln at *
  have HLN : Hid (L.length = ln) := hln
  clear hln
  go_enter Tryz.func53, Tryz.ntmps53
  go_wp2_with fail
  go_loopw [5] (fun t y => ∃ k : Nat, k ≤ ln ∧ t = .int .i64 k ∧ y = x ∧ Hid (∀ j, j < k → L.getD j 0 ≠ n)) (fun t _ => ln - (RowKit.intOf t).toNat)
  case atStart => exact ⟨0, by omega, rfl, rfl, fun j hj => by omega⟩
  case round =>
    obtain ⟨k, hk, rfl, rfl, hd⟩ := hrel
    by_cases hlt : k < ln
    · rcases hc with h0 | ⟨g, o, rfl, hBg, hgE, hEx, hf, hins⟩
      · omega
      have hki : (k : Int) < (ln : Int) := by omega
      have q0 := hins k (by omega)
      generalize hI : L.getD k 0 = I at q0
      have HI : Hid (L.getD k 0 = I) := hI
      clear hI hins hf
      by_cases hn : I = n
      · subst hn
        go_wp2_with fail
        go_ret
        have hmem : I ∈ L := by
          have hkL : k < L.length := by rw [HLN.out]; exact hlt
          have := HI.out
          rw [List.getD_eq_getElem?_getD, List.getElem?_eq_getElem hkL] at this
          rw [← this]
          exact List.getElem_mem hkL
        exact ⟨ret_bool (by rw [decide_eq_true hmem]), Below.refl _ _⟩
      · have hnb : (I == n) = false := by simp [hn]
        go_wp2_with fail
        go_roundw
        case rel =>
          refine ⟨k + 1, by omega, by go_num, trivial, fun j hj => ?_⟩
          rcases (by omega : j < k ∨ j = k) with h | rfl
          · exact hd.out j h
          · rw [HI.out]; exact hn
        case measure => simp [RowKit.intOf]; omega
    · obtain rfl : k = ln := by omega
      have hki : ¬ (k : Int) < (k : Int) := by omega
      have hno : n ∉ L := by
        intro hm
        obtain ⟨j, hj, e⟩ := List.getElem_of_mem hm
        refine hd.out j (by rw [← HLN.out]; exact hj) ?_
        rw [List.getD_eq_getElem?_getD, List.getElem?_eq_getElem hj]
        exact e
      have HNO : Hid (n ∉ L) := hno
      clear hno
      go_wp2_with fail
      go_ret
      exact ⟨ret_bool (by rw [decide_eq_false HNO.out]), Below.refl _ _⟩

end Go.Proofs.YtlkebkajdlgebaaGreat
