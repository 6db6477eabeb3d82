import Derived.Test.YtbjegekfghihkaaB29
import Derived.Test.YtbjegekfghihkaaB30
import Derived.Test.YtbjegekfghihkaaB31
import Derived.Test.YtbjegekfghihkaaB20
import Derived.Test.YtbjegekfghihkaaB8
import Derived.Deep.Slices
import Derived.Deep.Strs
import Derived.Lib.SmallJoins
import Derived.WideShapes
/-
  The walk of the exact law of RunAsks.
-/
namespace Go.Proofs.Ytbjegekfghihkaa
open Go.RowKit
set_option linter.unusedVariables false
set_option linter.unusedSimpArgs false

theorem ProgAt.lowerR {x : World} {B C : Nat} {v : Value} {P : List (List I4)} (h : ProgAt x B v P) (hc : C ≤ B) : ProgAt x C v P := by
  obtain ⟨p, cap, hv, hm, hq⟩ := h
  refine ⟨p, cap, hv, hm, hq.imp id ?_⟩
  rintro ⟨g, o, hp, hB, hg, hj⟩
  exact ⟨g, o, hp, by omega, hg, fun j h => by obtain ⟨u, hu, hcu⟩ := hj j h; exact ⟨u, hu, hcu.lower hc⟩⟩
/-- a run whose frames lie somewhere -/
def RunU (F : List Fr) (n1 n2 n3 n4 n5 n6 : Int) (v : Value) (x : World) : Prop := ∃ s, v = .agg #[s, .int .i64 n1, .int .i64 n2, .int .i64 n3, .int .i64 n4, .int .i64 n5, .int .i64 n6] ∧ FrsAt x s F
theorem RunU.later {F : List Fr} {n1 n2 n3 n4 n5 n6 : Int} {v : Value} {x y : World} (h : RunU F n1 n2 n3 n4 n5 n6 v x) (hb : Below x.heap.size x y) : RunU F n1 n2 n3 n4 n5 n6 v y := by
  obtain ⟨s, e, hs⟩ := h
  exact ⟨s, e, hs.later hb⟩

theorem toRun_at (x : World) (s : Value) (F : List Fr) (h : FrsAt x s F) (hn : F.length ≤ 1048576) (hall : ∀ j, j < F.length → (F.getD j fr0).r.length ≤ 1048576 ∧ (F.getD j fr0).c.length ≤ 1048576) (n1 n2 n3 n4 n5 n6 : Int) :
    Calls Try.prog 21 #[.agg #[s, .int .i64 n1, .int .i64 n2, .int .i64 n3, .int .i64 n4, .int .i64 n5, .int .i64 n6]] x fun e y => ∃ u, e = .returned (.agg #[u, .int .i64 n1, .int .i64 n2, .int .i64 n3, .int .i64 n4, .int .i64 n5, .int .i64 n6]) ∧ FrsAt y u F ∧ Below x.heap.size x y := toRun_any x s F h hn hall (n1, n2, n3, n4, n5, n6)
theorem eqRun_at (x : World) (s s' : Value) (F : List Fr) (h : FrsAt x s F) (h' : FrsAt x s' F) (n1 n2 n3 n4 n5 n6 : Int) :
    Calls Try.prog 23 #[.agg #[s, .int .i64 n1, .int .i64 n2, .int .i64 n3, .int .i64 n4, .int .i64 n5, .int .i64 n6], .agg #[s', .int .i64 n1, .int .i64 n2, .int .i64 n3, .int .i64 n4, .int .i64 n5, .int .i64 n6]] x fun e y => e = .returned (.bool true) ∧ Below x.heap.size x y := eqRun_any x s s' F h h' (n1, n2, n3, n4, n5, n6)

set_option maxRecDepth 100000 in
set_option maxHeartbeats 8000000 in
theorem exactRunAsks_walk (s0 : Option Addr) (n0 cap0 : Nat) (P : List (List I4)) (sv : Value) (F : List Fr) (n1 n2 n3 n4 n5 n6 : Int) (w : World) (hP : ProgAt w 0 (.slice s0 n0 cap0) P) (hS : FrsAt w sv F) :
    Calls Try.prog 4 #[.slice s0 n0 cap0, .agg #[sv, .int .i64 n1, .int .i64 n2, .int .i64 n3, .int .i64 n4, .int .i64 n5, .int .i64 n6]] w fun e w' => e = .returned (.bool true) ∧ Below w.heap.size w w' := by
  obtain ⟨ps, cs, rfl, _⟩ := hS.shape
  have HP : Hid (ProgAt w 0 (.slice s0 n0 cap0) P) := hP
  have HS : Hid (FrsAt w (.slice ps F.length cs) F) := hS
  have HF : Hid (∀ (z : World) (v : Value), ProgAt z 0 v P → ∀ (s : Value), FrsAt z s F → Calls Try.prog 20 #[v, .agg #[s, .int .i64 n1, .int .i64 n2, .int .i64 n3, .int .i64 n4, .int .i64 n5, .int .i64 n6]] z fun e y => e = .returned (.bool (asksF P F n1 n2 n3 (n4, n5, n6))) ∧ Below z.heap.size z y) :=
    fun z v hp s hs => runAsks_spec z 0 v P hp s F hs (n1, n2, n3, n4, n5, n6)
  have HFI : Hid (∀ (z : World) (v : Value), ProgAt z 0 v P → ∀ (s : Value), FrsAt z s F → Calls Try.prog 22 #[v, .agg #[s, .int .i64 n1, .int .i64 n2, .int .i64 n3, .int .i64 n4, .int .i64 n5, .int .i64 n6]] z fun e y => e = .returned (.bool (asksF P F n1 n2 n3 (n4, n5, n6))) ∧ Below z.heap.size z y) :=
    fun z v hp s hs => runAsks_impl z 0 v P hp s F hs (n1, n2, n3, n4, n5, n6)
  generalize asksF P F n1 n2 n3 (n4, n5, n6) = G at HF HFI
  have hgg : (G == G) = true := by cases G <;> rfl
  have hgg2 : (G != G) = false := by cases G <;> rfl
  generalize hfn : F.length = fn at HS
  have HFN : Hid (F.length = fn) := hfn
  clear hP hS hfn
  go_enter Try.func4, Try.ntmps4
  go_wp2_with fail
  generalize hX : w.alloc (.cells #[.slice ps fn cs, .int .i64 n1, .int .i64 n2, .int .i64 n3, .int .i64 n4, .int .i64 n5, .int .i64 n6] 50) = X
  have HXB : Hid (Below w.heap.size w X) := by show Below w.heap.size w X; rw [← hX]; exact (Below.refl _ _).alloc (Nat.le_refl _) _
  have HXX : Hid (BxN X w.heap.size [.slice ps fn cs, .int .i64 n1, .int .i64 n2, .int .i64 n3, .int .i64 n4, .int .i64 n5, .int .i64 n6]) := by show BxN _ _ _; rw [← hX]; exact BxN.new w [_, _, _, _, _, _, _] _
  clear hX
  refine (szProcS_any _ 0 _ P (HP.out.later HXB.out)).mono ?_
  rintro e w1 ⟨r, rfl, hr, hr1, hb1⟩
  have HR : Hid (0 ≤ r → P.length ≤ 1048576 ∧ ∀ j, j < P.length → (P.getD j []).length ≤ 1048576) := hr
  have HB1 : Hid (Below w.heap.size w w1) := HXB.out.trans (hb1.mono HXB.out.size)
  have HX1 := HXX.out.laterH hb1
  clear hr hb1 HXB HXX
  by_cases hneg : r < 0
  · go_wp2_with fail
    go_ret
    exact ⟨rfl, HB1.out⟩
  have HN : Hid (P.length ≤ 1048576 ∧ ∀ j, j < P.length → (P.getD j []).length ≤ 1048576) := HR.out (by omega)
  have h0r : 0 ≤ r := by omega
  clear HR
  have b0 := HX1.out.c 0 _ rfl
  have b1 := HX1.out.c 1 _ rfl
  have b2 := HX1.out.c 2 _ rfl
  have b3 := HX1.out.c 3 _ rfl
  have b4 := HX1.out.c 4 _ rfl
  have b5 := HX1.out.c 5 _ rfl
  have b6 := HX1.out.c 6 _ rfl
  have bl := HX1.out.lt
  go_wp2_with fail
  refine (szRun_any _ _ F (HS.out.later HB1.out) n1 n2 n3 n4 n5 n6 r h0r hr1).mono ?_
  rintro e w2 ⟨r2, rfl, hq, hq1, hb2⟩
  have HR2 : Hid (0 ≤ r2 → F.length ≤ 1048576 ∧ ∀ j, j < F.length → (F.getD j fr0).r.length ≤ 1048576 ∧ (F.getD j fr0).c.length ≤ 1048576) := hq
  have HB2 : Hid (Below w.heap.size w w2) := HB1.out.trans (hb2.mono HB1.out.size)
  have HX2 := HX1.out.laterH hb2
  clear hq hb2 HB1 HX1 b0 b1 b2 b3 b4 b5 b6 bl
  by_cases hneg2 : r2 < 0
  · go_wp2_with fail
    go_ret
    exact ⟨rfl, HB2.out⟩
  have HLN : Hid (F.length ≤ 1048576 ∧ ∀ j, j < F.length → (F.getD j fr0).r.length ≤ 1048576 ∧ (F.getD j fr0).c.length ≤ 1048576) := HR2.out (by omega)
  clear HR2 h0r hr1 hq1
  go_wp2_with fail
  refine wp_region_preds (by kernel_rfl) (by kernel_rfl) (by kernel_rfl) (by kernel_rfl) (fun j => [(fun v _ => v = .slice s0 n0 cap0), (fun v x => ProgAt x 0 v P), (fun v _ => v = .agg #[.slice ps fn cs, .int .i64 n1, .int .i64 n2, .int .i64 n3, .int .i64 n4, .int .i64 n5, .int .i64 n6]), (fun v x => RunU F n1 n2 n3 n4 n5 n6 v x), (fun v _ => v = .bool G), (fun v _ => v = .bool G)].getD j (fun _ _ => True)) ?stable w2 ((Below.refl _ _).drew) ?step (fun V => ⟨List.toArray ((.slice s0 n0 cap0) :: (.agg #[.slice ps fn cs, .int .i64 n1, .int .i64 n2, .int .i64 n3, .int .i64 n4, .int .i64 n5, .int .i64 n6]) :: (undef) :: (.pointer (some ⟨w.heap.size, 0, none⟩)) :: (.bool false) :: (.int .i64 r2) :: (V 5) :: (undef) :: (undef) :: (undef) :: (.slice s0 n0 cap0) :: (.int .i64 1048576) :: (.int .i64 r) :: (.int .i64 r) :: (.bool (decide (r < 0))) :: (.agg #[.slice ps fn cs, .int .i64 n1, .int .i64 n2, .int .i64 n3, .int .i64 n4, .int .i64 n5, .int .i64 n6]) :: (.int .i64 r) :: (.int .i64 r2) :: (.int .i64 r2) :: (.bool (decide (r2 < 0))) :: (V 0) :: (V 1) :: (V 2) :: (V 3) :: (V 4) :: (undef) :: (undef) :: (undef) :: (undef) :: (undef) :: (undef) :: (undef) :: (undef) :: (undef) :: (undef) :: (undef) :: (undef) :: (undef) :: (undef) :: (undef) :: (undef) :: (undef) :: (undef) :: (undef) :: (undef) :: []), []⟩) (fun V => by kernel_rfl) ?last
  case stable =>
    intro i v x y ht hb
    rcases i with _ | i
    · exact ht
    rcases i with _ | i
    · exact (ProgAt.later ht hb)
    rcases i with _ | i
    · exact ht
    rcases i with _ | i
    · exact (RunU.later ht hb)
    rcases i with _ | i
    · exact ht
    rcases i with _ | i
    · exact ht
    exact trivial
  case step =>
    intro i o ho ρ y x hBx hdep hout
    rcases i with _ | i
    · obtain rfl := Option.some.inj ho
      have o0 : ρ (.tmp 0) = .slice s0 n0 cap0 := hout (.tmp 0) rfl
      have ocn : ∀ v, ρ (.const v) = v := fun v => hout (.const v) rfl
      have ofn : ∀ f, ρ (.func f) = .func (.func f) #[] #[] := fun f => hout (.func f) rfl
      clear hdep hout
      refine .inl ⟨rfl, ?_⟩
      show GivesP _ _ _ (fun v _ => v = .slice s0 n0 cap0) _
      refine GivesP.val (.slice s0 n0 cap0) rfl ?_
      go_simp
    rcases i with _ | i
    · obtain rfl := Option.some.inj ho
      have e0 : ρ (.tmp 20) = .slice s0 n0 cap0 := (hdep ⟨0, .data⟩ (by simp) rfl 20 rfl).1
      have ocn : ∀ v, ρ (.const v) = v := fun v => hout (.const v) rfl
      have ofn : ∀ f, ρ (.func f) = .func (.func f) #[] #[] := fun f => hout (.func f) rfl
      clear hdep hout
      refine .inl ⟨rfl, ?_⟩
      show GivesP _ _ _ (fun v x => ProgAt x 0 v P) _
      refine GivesP.call ((toProcS_any x 0 _ P ((HP.out.later HB2.out).later hBx) HN.out.1 HN.out.2).mono fun e w9 h9 => ⟨h9.choose, h9.choose_spec.1, h9.choose_spec.2.1.lowerR (Nat.zero_le _), h9.choose_spec.2.2⟩) ?_
      go_simp
    rcases i with _ | i
    · obtain rfl := Option.some.inj ho
      have o3 : ρ (.tmp 3) = .pointer (some ⟨w.heap.size, 0, none⟩) := hout (.tmp 3) rfl
      have ocn : ∀ v, ρ (.const v) = v := fun v => hout (.const v) rfl
      have ofn : ∀ f, ρ (.func f) = .func (.func f) #[] #[] := fun f => hout (.func f) rfl
      clear hdep hout
      refine .inl ⟨rfl, ?_⟩
      have kb := HX2.out.later hBx
      have c0 := kb.c 0 _ rfl
      have c1 := kb.c 1 _ rfl
      have c2 := kb.c 2 _ rfl
      have c3 := kb.c 3 _ rfl
      have c4 := kb.c 4 _ rfl
      have c5 := kb.c 5 _ rfl
      have c6 := kb.c 6 _ rfl
      have cl0 := kb.lt
      show GivesP _ _ _ (fun v _ => v = .agg #[.slice ps fn cs, .int .i64 n1, .int .i64 n2, .int .i64 n3, .int .i64 n4, .int .i64 n5, .int .i64 n6]) _
      refine GivesP.val (.agg #[.slice ps fn cs, .int .i64 n1, .int .i64 n2, .int .i64 n3, .int .i64 n4, .int .i64 n5, .int .i64 n6]) rfl ?_
      go_simp
    rcases i with _ | i
    · obtain rfl := Option.some.inj ho
      have e2 : ρ (.tmp 22) = .agg #[.slice ps fn cs, .int .i64 n1, .int .i64 n2, .int .i64 n3, .int .i64 n4, .int .i64 n5, .int .i64 n6] := (hdep ⟨2, .data⟩ (by simp) rfl 22 rfl).1
      have ocn : ∀ v, ρ (.const v) = v := fun v => hout (.const v) rfl
      have ofn : ∀ f, ρ (.func f) = .func (.func f) #[] #[] := fun f => hout (.func f) rfl
      clear hdep hout
      refine .inl ⟨rfl, ?_⟩
      show GivesP _ _ _ (fun v x => RunU F n1 n2 n3 n4 n5 n6 v x) _
      refine GivesP.call ((toRun_at x _ F ((HS.out.later HB2.out).later hBx) HLN.out.1 HLN.out.2 n1 n2 n3 n4 n5 n6).mono fun e w9 h9 => ⟨_, h9.choose_spec.1, ⟨_, rfl, h9.choose_spec.2.1⟩, h9.choose_spec.2.2⟩) ?_
      go_simp
    rcases i with _ | i
    · obtain rfl := Option.some.inj ho
      have t1 := (hdep ⟨1, .data⟩ (by simp) rfl 21 rfl).1
      have t1 : (fun v x => ProgAt x 0 v P) (ρ (.tmp 21)) x := t1
      obtain t1 := t1
      have t3 := (hdep ⟨3, .data⟩ (by simp) rfl 23 rfl).1
      have t3 : (fun v x => RunU F n1 n2 n3 n4 n5 n6 v x) (ρ (.tmp 23)) x := t3
      obtain ⟨q3, e3, k3⟩ := t3
      have ocn : ∀ v, ρ (.const v) = v := fun v => hout (.const v) rfl
      have ofn : ∀ f, ρ (.func f) = .func (.func f) #[] #[] := fun f => hout (.func f) rfl
      clear hdep hout
      refine .inl ⟨rfl, ?_⟩
      show GivesP _ _ _ (fun v _ => v = .bool G) _
      refine GivesP.call ((HF.out x _ t1 _ k3).mono fun e w9 h9 => ⟨_, h9.1, rfl, h9.2⟩) ?_
      go_simp
    rcases i with _ | i
    · obtain rfl := Option.some.inj ho
      have e4 : ρ (.tmp 24) = .bool G := (hdep ⟨4, .data⟩ (by simp) rfl 24 rfl).1
      have ocn : ∀ v, ρ (.const v) = v := fun v => hout (.const v) rfl
      have ofn : ∀ f, ρ (.func f) = .func (.func f) #[] #[] := fun f => hout (.func f) rfl
      clear hdep hout
      refine .inl ⟨rfl, ?_⟩
      show GivesP _ _ _ (fun v _ => v = .bool G) _
      refine GivesP.val (.bool G) rfl ?_
      go_simp
    cases ho
  case last =>
    intro V w3 hBx hV
    have e5 : V 5 = .bool G := hV 5 (by simp)
    clear hV
    rw [e5]
    have HB3 : Hid (Below w.heap.size w w3) := HB2.out.trans (hBx.mono HB2.out.size)
    have HX3 := HX2.out.laterH hBx
    clear hBx HB2 HX2
    go_wp2_with fail
    refine (toProcS_any _ 0 _ P (HP.out.later HB3.out) HN.out.1 HN.out.2).mono ?_
    rintro e w4 ⟨u4, rfl, hP4, hb4⟩
    have HB4 : Hid (Below w.heap.size w w4) := HB3.out.trans (hb4.mono HB3.out.size)
    have HX4 := HX3.out.laterH hb4
    have HP4 : Hid (ProgAt w4 0 u4 P) := hP4.lowerR (Nat.zero_le _)
    clear hb4 hP4 HB3 HX3
    have b0 := HX4.out.c 0 _ rfl
    have b1 := HX4.out.c 1 _ rfl
    have b2 := HX4.out.c 2 _ rfl
    have b3 := HX4.out.c 3 _ rfl
    have b4 := HX4.out.c 4 _ rfl
    have b5 := HX4.out.c 5 _ rfl
    have b6 := HX4.out.c 6 _ rfl
    have bl := HX4.out.lt
    go_wp2_with fail
    refine (toRun_any w4 _ F (HS.out.later HB4.out) HLN.out.1 HLN.out.2 (n1, n2, n3, n4, n5, n6)).mono ?_
    rintro e w5 ⟨v5, rfl, hF5, hb5⟩
    obtain ⟨p5, k5, rfl, _⟩ := hF5.shape
    rw [HFN.out] at hF5 ⊢
    unfold aggRun
    dsimp only
    have HB5 : Hid (Below w.heap.size w w5) := HB4.out.trans (hb5.mono HB4.out.size)
    have HX5 := HX4.out.laterH hb5
    have HP5 : Hid (ProgAt w5 0 u4 P) := HP4.out.later hb5
    have HF5 : Hid (FrsAt w5 (.slice p5 fn k5) F) := hF5
    clear hb5 hF5 HB4 HX4 HP4 b0 b1 b2 b3 b4 b5 b6 bl
    go_wp2_with fail
    generalize hY : w5.alloc (.cells #[.slice p5 fn k5, .int .i64 n1, .int .i64 n2, .int .i64 n3, .int .i64 n4, .int .i64 n5, .int .i64 n6] 56) = w6
    have hYB : Below w5.heap.size w5 w6 := by rw [← hY]; exact (Below.refl _ _).alloc (Nat.le_refl _) _
    have HK6 : Hid (BxN w6 w5.heap.size [.slice p5 fn k5, .int .i64 n1, .int .i64 n2, .int .i64 n3, .int .i64 n4, .int .i64 n5, .int .i64 n6]) := by show BxN _ _ _; rw [← hY]; exact BxN.new w5 [_, _, _, _, _, _, _] _
    have HB6 : Hid (Below w.heap.size w w6) := HB5.out.trans (hYB.mono HB5.out.size)
    have HX6 := HX5.out.laterH hYB
    have HP6 : Hid (ProgAt w6 0 u4 P) := HP5.out.later hYB
    have HF6 : Hid (FrsAt w6 (.slice p5 fn k5) F) := HF5.out.later hYB
    clear hY hYB HB5 HX5 HP5 HF5
    refine (HFI.out w6 _ HP6.out _ HF6.out).mono ?_
    rintro e w7 ⟨rfl, hb7⟩
    have HK7 := HK6.out.laterH hb7
    have HB7 : Hid (Below w.heap.size w w7) := HB6.out.trans (hb7.mono HB6.out.size)
    have HX7 := HX6.out.laterH hb7
    have HP7 : Hid (ProgAt w7 0 u4 P) := HP6.out.later hb7
    have HF7 : Hid (FrsAt w7 (.slice p5 fn k5) F) := HF6.out.later hb7
    clear hb7 HK6 HB6 HX6 HP6 HF6 HF HFI
    go_wp2_with fail
    refine (toProcS_any _ 0 _ P (HP.out.later HB7.out) HN.out.1 HN.out.2).mono ?_
    rintro e w9 ⟨u9, rfl, hP9, hb9⟩
    have HK9 := HK7.out.laterH hb9
    have HB9 : Hid (Below w.heap.size w w9) := HB7.out.trans (hb9.mono HB7.out.size)
    have HX9 := HX7.out.laterH hb9
    have HP9 : Hid (ProgAt w9 0 u4 P) := HP7.out.later hb9
    have HF9 : Hid (FrsAt w9 (.slice p5 fn k5) F) := HF7.out.later hb9
    clear hb9 HK7 HB7 HX7 HP7 HF7
    go_wp2_with fail
    refine (eqProcS_same w9 _ _ u4 u9 P HP9.out hP9).mono ?_
    rintro e wa ⟨rfl, hba⟩
    have HKA := HK9.out.laterH hba
    have HBA : Hid (Below w.heap.size w wa) := HB9.out.trans (hba.mono HB9.out.size)
    have HXA := HX9.out.laterH hba
    have HFA : Hid (FrsAt wa (.slice p5 fn k5) F) := HF9.out.later hba
    clear hba HK9 HB9 HX9 HP9 HF9 hP9
    go_wp2_with fail
    refine wp_region_preds (by kernel_rfl) (by kernel_rfl) (by kernel_rfl) (by kernel_rfl) (fun j => [(fun v _ => v = .agg #[.slice p5 fn k5, .int .i64 n1, .int .i64 n2, .int .i64 n3, .int .i64 n4, .int .i64 n5, .int .i64 n6]), (fun v _ => v = .agg #[.slice ps fn cs, .int .i64 n1, .int .i64 n2, .int .i64 n3, .int .i64 n4, .int .i64 n5, .int .i64 n6]), (fun v x => RunU F n1 n2 n3 n4 n5 n6 v x), (fun v _ => v = .bool true), (fun v _ => v = .bool false)].getD j (fun _ _ => True)) ?stable wa ((Below.refl _ _).drew) ?step (fun U => ⟨List.toArray ((.slice s0 n0 cap0) :: (.agg #[.slice ps fn cs, .int .i64 n1, .int .i64 n2, .int .i64 n3, .int .i64 n4, .int .i64 n5, .int .i64 n6]) :: (undef) :: (.pointer (some ⟨w.heap.size, 0, none⟩)) :: (.bool false) :: (.int .i64 r2) :: (.bool G) :: (u4) :: (.pointer (some ⟨w5.heap.size, 0, none⟩)) :: (.bool G) :: (.slice s0 n0 cap0) :: (.int .i64 1048576) :: (.int .i64 r) :: (.int .i64 r) :: (.bool (decide (r < 0))) :: (.agg #[.slice ps fn cs, .int .i64 n1, .int .i64 n2, .int .i64 n3, .int .i64 n4, .int .i64 n5, .int .i64 n6]) :: (.int .i64 r) :: (.int .i64 r2) :: (.int .i64 r2) :: (.bool (decide (r2 < 0))) :: (V 0) :: (V 1) :: (V 2) :: (V 3) :: (V 4) :: (.slice s0 n0 cap0) :: (u4) :: (.agg #[.slice ps fn cs, .int .i64 n1, .int .i64 n2, .int .i64 n3, .int .i64 n4, .int .i64 n5, .int .i64 n6]) :: (.agg #[.slice p5 fn k5, .int .i64 n1, .int .i64 n2, .int .i64 n3, .int .i64 n4, .int .i64 n5, .int .i64 n6]) :: (u4) :: (.agg #[.slice p5 fn k5, .int .i64 n1, .int .i64 n2, .int .i64 n3, .int .i64 n4, .int .i64 n5, .int .i64 n6]) :: (.bool G) :: (.bool G) :: (.bool G) :: (.bool false) :: (u4) :: (.slice s0 n0 cap0) :: (u9) :: (.bool true) :: (.bool false) :: (U 0) :: (U 1) :: (U 2) :: (U 3) :: (U 4) :: []), []⟩) (fun U => by kernel_rfl) ?last
    case stable =>
      intro i v x y ht hb
      rcases i with _ | i
      · exact ht
      rcases i with _ | i
      · exact ht
      rcases i with _ | i
      · exact (RunU.later ht hb)
      rcases i with _ | i
      · exact ht
      rcases i with _ | i
      · exact ht
      exact trivial
    case step =>
      intro i o ho ρ y x hBx hdep hout
      rcases i with _ | i
      · obtain rfl := Option.some.inj ho
        have o8 : ρ (.tmp 8) = .pointer (some ⟨w5.heap.size, 0, none⟩) := hout (.tmp 8) rfl
        have ocn : ∀ v, ρ (.const v) = v := fun v => hout (.const v) rfl
        have ofn : ∀ f, ρ (.func f) = .func (.func f) #[] #[] := fun f => hout (.func f) rfl
        clear hdep hout
        refine .inl ⟨rfl, ?_⟩
        have kb := HKA.out.later hBx
        have c0 := kb.c 0 _ rfl
        have c1 := kb.c 1 _ rfl
        have c2 := kb.c 2 _ rfl
        have c3 := kb.c 3 _ rfl
        have c4 := kb.c 4 _ rfl
        have c5 := kb.c 5 _ rfl
        have c6 := kb.c 6 _ rfl
        have cl0 := kb.lt
        show GivesP _ _ _ (fun v _ => v = .agg #[.slice p5 fn k5, .int .i64 n1, .int .i64 n2, .int .i64 n3, .int .i64 n4, .int .i64 n5, .int .i64 n6]) _
        refine GivesP.val (.agg #[.slice p5 fn k5, .int .i64 n1, .int .i64 n2, .int .i64 n3, .int .i64 n4, .int .i64 n5, .int .i64 n6]) rfl ?_
        go_simp
      rcases i with _ | i
      · obtain rfl := Option.some.inj ho
        have o3 : ρ (.tmp 3) = .pointer (some ⟨w.heap.size, 0, none⟩) := hout (.tmp 3) rfl
        have ocn : ∀ v, ρ (.const v) = v := fun v => hout (.const v) rfl
        have ofn : ∀ f, ρ (.func f) = .func (.func f) #[] #[] := fun f => hout (.func f) rfl
        clear hdep hout
        refine .inl ⟨rfl, ?_⟩
        have kb := HXA.out.later hBx
        have c0 := kb.c 0 _ rfl
        have c1 := kb.c 1 _ rfl
        have c2 := kb.c 2 _ rfl
        have c3 := kb.c 3 _ rfl
        have c4 := kb.c 4 _ rfl
        have c5 := kb.c 5 _ rfl
        have c6 := kb.c 6 _ rfl
        have cl0 := kb.lt
        show GivesP _ _ _ (fun v _ => v = .agg #[.slice ps fn cs, .int .i64 n1, .int .i64 n2, .int .i64 n3, .int .i64 n4, .int .i64 n5, .int .i64 n6]) _
        refine GivesP.val (.agg #[.slice ps fn cs, .int .i64 n1, .int .i64 n2, .int .i64 n3, .int .i64 n4, .int .i64 n5, .int .i64 n6]) rfl ?_
        go_simp
      rcases i with _ | i
      · obtain rfl := Option.some.inj ho
        have e1 : ρ (.tmp 41) = .agg #[.slice ps fn cs, .int .i64 n1, .int .i64 n2, .int .i64 n3, .int .i64 n4, .int .i64 n5, .int .i64 n6] := (hdep ⟨1, .data⟩ (by simp) rfl 41 rfl).1
        have ocn : ∀ v, ρ (.const v) = v := fun v => hout (.const v) rfl
        have ofn : ∀ f, ρ (.func f) = .func (.func f) #[] #[] := fun f => hout (.func f) rfl
        clear hdep hout
        refine .inl ⟨rfl, ?_⟩
        show GivesP _ _ _ (fun v x => RunU F n1 n2 n3 n4 n5 n6 v x) _
        refine GivesP.call ((toRun_at x _ F ((HS.out.later HBA.out).later hBx) HLN.out.1 HLN.out.2 n1 n2 n3 n4 n5 n6).mono fun e w9 h9 => ⟨_, h9.choose_spec.1, ⟨_, rfl, h9.choose_spec.2.1⟩, h9.choose_spec.2.2⟩) ?_
        go_simp
      rcases i with _ | i
      · obtain rfl := Option.some.inj ho
        have e0 : ρ (.tmp 40) = .agg #[.slice p5 fn k5, .int .i64 n1, .int .i64 n2, .int .i64 n3, .int .i64 n4, .int .i64 n5, .int .i64 n6] := (hdep ⟨0, .data⟩ (by simp) rfl 40 rfl).1
        have t2 := (hdep ⟨2, .data⟩ (by simp) rfl 42 rfl).1
        have t2 : (fun v x => RunU F n1 n2 n3 n4 n5 n6 v x) (ρ (.tmp 42)) x := t2
        obtain ⟨q2, e2, k2⟩ := t2
        have ocn : ∀ v, ρ (.const v) = v := fun v => hout (.const v) rfl
        have ofn : ∀ f, ρ (.func f) = .func (.func f) #[] #[] := fun f => hout (.func f) rfl
        clear hdep hout
        refine .inl ⟨rfl, ?_⟩
        show GivesP _ _ _ (fun v _ => v = .bool true) _
        refine GivesP.call ((eqRun_at x _ _ F (HFA.out.later hBx) k2 n1 n2 n3 n4 n5 n6).mono fun e w9 h9 => ⟨_, h9.1, rfl, h9.2⟩) ?_
        go_simp
      rcases i with _ | i
      · obtain rfl := Option.some.inj ho
        have e3 : ρ (.tmp 43) = .bool true := (hdep ⟨3, .data⟩ (by simp) rfl 43 rfl).1
        have ocn : ∀ v, ρ (.const v) = v := fun v => hout (.const v) rfl
        have ofn : ∀ f, ρ (.func f) = .func (.func f) #[] #[] := fun f => hout (.func f) rfl
        clear hdep hout
        refine .inl ⟨rfl, ?_⟩
        show GivesP _ _ _ (fun v _ => v = .bool false) _
        refine GivesP.val (.bool false) rfl ?_
        go_simp
      cases ho
    case last =>
      intro U z hBx hV
      have e4 : U 4 = .bool false := hV 4 (by simp)
      clear hV
      have hBf := HBA.out.trans (hBx.mono HBA.out.size)
      rw [e4]
      go_wp2_with fail
      go_ret
      exact ⟨rfl, hBf⟩

end Go.Proofs.Ytbjegekfghihkaa

/-
  A program that is handed in, opened: what it reads as.
-/
namespace Go.Proofs.Ytbjegekfghihkaa
open Go.ChangeShapes Go.WideShapes Go.ChangeAt Go.RowKit Go.Joins Go.Deep
set_option linter.unusedVariables false
set_option linter.unusedSimpArgs false

theorem cell_ltP {w : World} {a : Addr} {v : Value} (h : w.cell? a = some v) : a.block < w.heap.size := by
  rcases Nat.lt_or_ge a.block w.heap.size with hl | hl
  · exact hl
  · exfalso
    have hn : w.heap[a.block]? = none := by simp; omega
    obtain ⟨b, o, s⟩ := a
    simp only at hn
    simp [World.cell?, hn] at h

section
variable {H : Type} {enc : TypeId × Value → H} {W : World} {spare : Nat → Bool} {held : Bool}

theorem list4 {α : Type} {cs : List α} (h : cs.length = 4) : ∃ c0 c1 c2 c3, cs = [c0, c1, c2, c3] := by
  match cs, h with
  | [c0, c1, c2, c3], _ => exact ⟨c0, c1, c2, c3, rfl⟩
theorem open_ins_cells {fuel : Nat} {cs : List Value} {x : DataW H × List MemPlace} (h : DataW.trod enc Try.prog W 0 spare held fuel 131 cs = some x) :
    ∃ k a b c : Int, cs = [.int .i64 k, .int .i64 a, .int .i64 b, .int .i64 c] := by
  obtain ⟨y0, y1, y2, y3, n, _, hl, h0, h1, h2, h3⟩ := trod_struct4 Try.underlying131 h
  have hc : Try.prog.cellsOf 131 = 4 := by kernel_rfl
  have hi : Try.prog.cellsOf 3 = 1 := by kernel_rfl
  rw [hc] at hl
  obtain ⟨c0, c1, c2, c3, rfl⟩ := list4 hl
  simp only [hi, List.drop_zero, List.drop_succ_cons, List.take_succ_cons, List.take_zero] at h0 h1 h2 h3
  obtain ⟨k, e0, _⟩ := DataW.trod_int Try.underlying3 h0
  obtain ⟨a, e1, _⟩ := DataW.trod_int Try.underlying3 h1
  obtain ⟨b, e2, _⟩ := DataW.trod_int Try.underlying3 h2
  obtain ⟨c, e3, _⟩ := DataW.trod_int Try.underlying3 h3
  simp at e0 e1 e2 e3
  subst e0 e1 e2 e3
  exact ⟨k, a, b, c, rfl⟩

theorem list_ofP {α : Type} (d : α) {n : Nat} (q : Nat → α) : ∃ L : List α, L.length = n ∧ ∀ j, j < n → L.getD j d = q j :=
  ⟨(List.range n).map q, by simp, fun j hj => by simp [List.getD, hj]⟩

theorem open_code {fuel : Nat} {v : Value} {x : DataW H × List MemPlace} (h : DataW.trod enc Try.prog W 0 spare held fuel 61 [v] = some x) :
    ∃ c, CodeAt W 0 v c := by
  have hc : Try.prog.cellsOf 131 = 4 := by kernel_rfl
  rcases open_slice Try.underlying61 h with ⟨hcs, _⟩ | ⟨a, len, cap, m, n, D, Pl, hcs, _, hl, hm, hmm, _, hx⟩
  · simp at hcs
    subst hcs
    exact ⟨[], none, 0, rfl, Nat.zero_le _, .inl rfl⟩
  · simp at hcs
    subst hcs
    have hlm : len ≤ m := by rw [hmm]; split <;> omega
    have each : ∀ i, i < len → ∃ q : I4, W.cell? (a.add (i * 4)) = some (.int .i64 q.1) ∧ W.cell? (a.add (i * 4 + 1)) = some (.int .i64 q.2.1) ∧ W.cell? (a.add (i * 4 + 2)) = some (.int .i64 q.2.2.1) ∧ W.cell? (a.add (i * 4 + 3)) = some (.int .i64 q.2.2.2) := by
      intro i hi
      obtain ⟨cs', h1, h2⟩ := hx i (by omega)
      rw [hc] at h1
      obtain ⟨_, hlen, hcell⟩ := World.cells?_some h1
      obtain ⟨k, a', b, c, rfl⟩ := open_ins_cells h2
      have e0 := hcell 0 (by omega)
      have e1 := hcell 1 (by omega)
      have e2 := hcell 2 (by omega)
      have e3 := hcell 3 (by omega)
      rw [add_add] at e0 e1 e2 e3
      exact ⟨(k, a', b, c), by simpa using e0, by simpa using e1, by simpa using e2, by simpa using e3⟩
    obtain ⟨q, hq⟩ := choose_lt each
    obtain ⟨L, hL, hget⟩ := list_ofP i0 (n := len) q
    refine ⟨L, some a, cap, by rw [hL], by rw [hL]; omega, ?_⟩
    rw [hL]
    by_cases h0 : len = 0
    · exact .inl h0
    · right
      obtain ⟨b, off, spot⟩ := a
      have hspot : spot = none := by simpa [Addr.add] using World.cell?_spot (hq 0 (by omega)).1
      subst hspot
      have hlt : b < W.heap.size := by
        have := cell_ltP (hq 0 (by omega)).1
        simpa [Addr.add] using this
      refine ⟨b, off, rfl, Nat.zero_le _, hlt, fun j hj => ?_⟩
      obtain ⟨g0, g1, g2, g3⟩ := hq j hj
      rw [add_plain] at g0 g1 g2 g3
      rw [hget j hj]
      exact ⟨g0, g1, g2, g3⟩

theorem open_procs {fuel : Nat} {v : Value} {x : DataW H × List MemPlace} (h : DataW.trod enc Try.prog W 0 spare held fuel 22 [v] = some x) :
    ∃ P, ProgAt W 0 v P := by
  have hc : Try.prog.cellsOf 63 = 1 := by kernel_rfl
  have hs : Try.prog.cellsOf 61 = 1 := by kernel_rfl
  rcases open_slice1 Try.underlying22 hc h with ⟨hcs, _⟩ | ⟨a, len, cap, m, n, V, D, Pl, hcs, _, hl, hm, hmm, _, hx⟩
  · simp at hcs
    subst hcs
    exact ⟨[], none, 0, rfl, Nat.zero_le _, .inl rfl⟩
  · simp at hcs
    subst hcs
    have hlm : len ≤ m := by rw [hmm]; split <;> omega
    have each : ∀ i, i < len → ∃ c : List I4, CodeAt W 0 (V i) c := by
      intro i hi
      obtain ⟨_, h2⟩ := hx i (by omega)
      obtain ⟨y0, n', _, _, hy⟩ := trod_struct1 Try.underlying63 h2
      simp only [hs, List.drop_zero, List.take_succ_cons, List.take_zero] at hy
      exact open_code hy
    obtain ⟨q, hq⟩ := choose_lt each
    obtain ⟨L, hL, hget⟩ := list_ofP [] (n := len) q
    refine ⟨L, some a, cap, by rw [hL], by rw [hL]; omega, ?_⟩
    rw [hL]
    by_cases h0 : len = 0
    · exact .inl h0
    · right
      obtain ⟨b, off, spot⟩ := a
      have h00 := (hx 0 (by omega)).1
      have hspot : spot = none := by simpa [Addr.add] using World.cell?_spot h00
      subst hspot
      have hlt : b < W.heap.size := by
        have := cell_ltP h00
        simpa [Addr.add] using this
      refine ⟨b, off, rfl, Nat.zero_le _, hlt, fun j hj => ⟨V j, ?_, ?_⟩⟩
      · have := (hx j (by omega)).1
        rw [add_plain] at this
        exact this
      · rw [hget j hj]
        exact hq j hj

theorem open_prog {s : Option Addr} {n cap : Nat} {d : DataW H} {p : List MemPlace} (h : DataW.Trod enc Try.prog W 0 spare held 22 (.slice s n cap) d p) : ∃ P, ProgAt W 0 (.slice s n cap) P := by
  obtain ⟨fuel, hf⟩ := h
  exact open_procs hf
end
end Go.Proofs.Ytbjegekfghihkaa
