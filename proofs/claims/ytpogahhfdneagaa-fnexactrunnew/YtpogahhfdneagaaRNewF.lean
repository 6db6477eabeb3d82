/-
  The laws' own helpers on a run that begins: eqFrameS, eqRun.
-/
import Derived.Test.YtpogahhfdneagaaRNewE
import Derived.Test.YtpogahhfdneagaaInvQ
namespace Go.Proofs.Ytpogahhfdneagaa
open Go.RowKit
set_option linter.unusedVariables false
set_option linter.unusedSimpArgs false

theorem RB.later {x y : World} {g ga gb ca cb : Nat} {N : Nat → Int} (h : RB x g ga gb ca cb N) (hb : Below x.heap.size x y) (l1 : g < x.heap.size) (l2 : ga < x.heap.size) (l3 : gb < x.heap.size) : RB y g ga gb ca cb N :=
  h.stay fun b o hbo => by
    have hlt : b < x.heap.size := by omega
    exact ⟨hb.cell (p := ⟨b, o, none⟩) hlt, hb.frozen (p := ⟨b, o, none⟩) hlt⟩
theorem eqFrame_at (x0 : World) (g ga gb g' ga' gb' ca cb ca' cb' : Nat) (N : Nat → Int) (h : RB x0 g ga gb ca cb N) (h' : RB x0 g' ga' gb' ca' cb' N) (l1 : ga < x0.heap.size) (l2 : gb < x0.heap.size) (l3 : ga' < x0.heap.size) (l4 : gb' < x0.heap.size) :
    Calls Try.prog 98 #[.agg #[.int .i64 (N 0), .int .i64 (N 1), .int .i64 (N 2), .slice (some ⟨ga, 0, none⟩) 3 ca, .slice (some ⟨gb, 0, none⟩) 3 cb, .int .i64 (N 9)], .agg #[.int .i64 (N 0), .int .i64 (N 1), .int .i64 (N 2), .slice (some ⟨ga', 0, none⟩) 3 ca', .slice (some ⟨gb', 0, none⟩) 3 cb', .int .i64 (N 9)]] x0 fun e y => e = .returned (.bool true) ∧ Below x0.heap.size x0 y := eqFrame_same x0 g ga gb g' ga' gb' ca cb ca' cb' N h h' l1 l2 l3 l4

set_option maxRecDepth 100000 in
set_option maxHeartbeats 4000000 in
theorem eqFrameS_same (x0 : World) (g ga gb g' ga' gb' cap cap' : Nat) (N : Nat → Int) (h : RB x0 g ga gb 3 3 N) (h' : RB x0 g' ga' gb' 3 3 N) (l0 : g < x0.heap.size) (l1 : ga < x0.heap.size) (l2 : gb < x0.heap.size) (l0' : g' < x0.heap.size) (l3 : ga' < x0.heap.size) (l4 : gb' < x0.heap.size) :
    Calls Try.prog 65 #[.slice (some ⟨g, 0, none⟩) 1 cap, .slice (some ⟨g', 0, none⟩) 1 cap'] x0 fun e y => e = .returned (.bool true) ∧ Below x0.heap.size x0 y := by
  have HA : Hid (RB x0 g ga gb 3 3 N) := h
  have HB : Hid (RB x0 g' ga' gb' 3 3 N) := h'
  have HL : Hid (g < x0.heap.size ∧ ga < x0.heap.size ∧ gb < x0.heap.size ∧ g' < x0.heap.size ∧ ga' < x0.heap.size ∧ gb' < x0.heap.size) := ⟨l0, l1, l2, l0', l3, l4⟩
  clear h h' l0 l1 l2 l0' l3 l4
  go_enter Try.func65, Try.ntmps65
  go_wp2_with fail
  go_loopw [5] (fun t y => ∃ k : Nat, k ≤ 1 ∧ t = .int .i64 k ∧ Below x0.heap.size x0 y) (fun t _ => 1 - (intOf t).toNat)
  case atStart => exact ⟨0, by omega, rfl, Below.refl _ _⟩
  case round =>
    obtain ⟨k, hk, rfl, hBk⟩ := hrel
    by_cases hlt : k < 1
    · obtain rfl : k = 0 := by omega
      have HK : Hid (Below x0.heap.size x0 wr) := hBk
      clear hBk
      have HA2 : Hid (RB wr g ga gb 3 3 N) := HA.out.later HK.out HL.out.1 HL.out.2.1 HL.out.2.2.1
      have HB2 : Hid (RB wr g' ga' gb' 3 3 N) := HB.out.later HK.out HL.out.2.2.2.1 HL.out.2.2.2.2.1 HL.out.2.2.2.2.2
      have HL2 : Hid (g < wr.heap.size ∧ ga < wr.heap.size ∧ gb < wr.heap.size ∧ g' < wr.heap.size ∧ ga' < wr.heap.size ∧ gb' < wr.heap.size) := by
        have hs := HK.out.size
        have hl := HL.out
        show _ ∧ _ ∧ _ ∧ _ ∧ _ ∧ _
        omega
      clear HA HB HL
      go_wp2_with fail
      refine wp_region_preds (by kernel_rfl) (by kernel_rfl) (by kernel_rfl) (by kernel_rfl) (fun j => [(fun v _ => v = .slice (some ⟨g, 0, none⟩) 1 cap), (fun v _ => v = .int .i64 ↑0), (fun v _ => v = .pointer (some ⟨g, 0, none⟩)), (fun v _ => v = .agg #[.int .i64 (N 0), .int .i64 (N 1), .int .i64 (N 2), .slice (some ⟨ga, 0, none⟩) 3 3, .slice (some ⟨gb, 0, none⟩) 3 3, .int .i64 (N 9)]), (fun v _ => v = .slice (some ⟨g', 0, none⟩) 1 cap'), (fun v _ => v = .int .i64 ↑0), (fun v _ => v = .pointer (some ⟨g', 0, none⟩)), (fun v _ => v = .agg #[.int .i64 (N 0), .int .i64 (N 1), .int .i64 (N 2), .slice (some ⟨ga', 0, none⟩) 3 3, .slice (some ⟨gb', 0, none⟩) 3 3, .int .i64 (N 9)]), (fun v _ => v = .bool true), (fun v _ => v = .bool false)].getD j (fun _ _ => True)) ?stable wr ((Below.refl _ _).drew) ?step (fun U => ⟨List.toArray ((.slice (some ⟨g, 0, none⟩) 1 cap) :: (.slice (some ⟨g', 0, none⟩) 1 cap') :: (undef) :: (undef) :: (u4) :: (.int .i64 ↑0) :: (.slice (some ⟨g, 0, none⟩) 1 cap) :: (.int .i64 1) :: (.slice (some ⟨g', 0, none⟩) 1 cap') :: (.int .i64 1) :: (.bool false) :: (.int .i64 ↑0) :: (.slice (some ⟨g, 0, none⟩) 1 cap) :: (.int .i64 1) :: (.bool true) :: (u15) :: (u16) :: (U 0) :: (U 1) :: (U 2) :: (U 3) :: (U 4) :: (U 5) :: (U 6) :: (U 7) :: (U 8) :: (U 9) :: []), []⟩) (fun U => by kernel_rfl) ?last
      case stable =>
        intro i v x y ht hb
        rcases i with _ | i
        · exact ht
        rcases i with _ | i
        · exact ht
        rcases i with _ | i
        · exact ht
        rcases i with _ | i
        · exact ht
        rcases i with _ | i
        · exact ht
        rcases i with _ | i
        · exact ht
        rcases i with _ | i
        · exact ht
        rcases i with _ | i
        · exact ht
        rcases i with _ | i
        · exact ht
        rcases i with _ | i
        · exact ht
        exact trivial
      case step =>
        intro i o ho ρ y x hBx hdep hout
        rcases i with _ | i
        · obtain rfl := Option.some.inj ho
          have o0 : ρ (.tmp 0) = .slice (some ⟨g, 0, none⟩) 1 cap := hout (.tmp 0) rfl
          have ocn : ∀ v, ρ (.const v) = v := fun v => hout (.const v) rfl
          have ofn : ∀ f, ρ (.func f) = .func (.func f) #[] #[] := fun f => hout (.func f) rfl
          clear hdep hout
          refine .inl ⟨rfl, ?_⟩
          show GivesP _ _ _ (fun v _ => v = .slice (some ⟨g, 0, none⟩) 1 cap) _
          refine GivesP.val (.slice (some ⟨g, 0, none⟩) 1 cap) rfl ?_
          go_simp
        rcases i with _ | i
        · obtain rfl := Option.some.inj ho
          have o5 : ρ (.tmp 5) = .int .i64 ↑0 := hout (.tmp 5) rfl
          have ocn : ∀ v, ρ (.const v) = v := fun v => hout (.const v) rfl
          have ofn : ∀ f, ρ (.func f) = .func (.func f) #[] #[] := fun f => hout (.func f) rfl
          clear hdep hout
          refine .inl ⟨rfl, ?_⟩
          show GivesP _ _ _ (fun v _ => v = .int .i64 ↑0) _
          refine GivesP.val (.int .i64 ↑0) rfl ?_
          go_simp
        rcases i with _ | i
        · obtain rfl := Option.some.inj ho
          have e0 : ρ (.tmp 17) = .slice (some ⟨g, 0, none⟩) 1 cap := (hdep ⟨0, .data⟩ (by simp) rfl 17 rfl).1
          have e1 : ρ (.tmp 18) = .int .i64 ↑0 := (hdep ⟨1, .data⟩ (by simp) rfl 18 rfl).1
          have ocn : ∀ v, ρ (.const v) = v := fun v => hout (.const v) rfl
          have ofn : ∀ f, ρ (.func f) = .func (.func f) #[] #[] := fun f => hout (.func f) rfl
          clear hdep hout
          refine .inl ⟨rfl, ?_⟩
          show GivesP _ _ _ (fun v _ => v = .pointer (some ⟨g, 0, none⟩)) _
          refine GivesP.val (.pointer (some ⟨g, 0, none⟩)) rfl ?_
          go_simp
        rcases i with _ | i
        · obtain rfl := Option.some.inj ho
          have e2 : ρ (.tmp 19) = .pointer (some ⟨g, 0, none⟩) := (hdep ⟨2, .data⟩ (by simp) rfl 19 rfl).1
          have ocn : ∀ v, ρ (.const v) = v := fun v => hout (.const v) rfl
          have ofn : ∀ f, ρ (.func f) = .func (.func f) #[] #[] := fun f => hout (.func f) rfl
          clear hdep hout
          refine .inl ⟨rfl, ?_⟩
          have rb := (HA2.out.later hBx HL2.out.1 HL2.out.2.1 HL2.out.2.2.1)
          obtain ⟨c0, c1, c2, c3, c4, c5, _, _, _, _, _, _, _, _, _⟩ := rb
          show GivesP _ _ _ (fun v _ => v = .agg #[.int .i64 (N 0), .int .i64 (N 1), .int .i64 (N 2), .slice (some ⟨ga, 0, none⟩) 3 3, .slice (some ⟨gb, 0, none⟩) 3 3, .int .i64 (N 9)]) _
          refine GivesP.val (.agg #[.int .i64 (N 0), .int .i64 (N 1), .int .i64 (N 2), .slice (some ⟨ga, 0, none⟩) 3 3, .slice (some ⟨gb, 0, none⟩) 3 3, .int .i64 (N 9)]) rfl ?_
          go_simp
        rcases i with _ | i
        · obtain rfl := Option.some.inj ho
          have o1 : ρ (.tmp 1) = .slice (some ⟨g', 0, none⟩) 1 cap' := hout (.tmp 1) rfl
          have ocn : ∀ v, ρ (.const v) = v := fun v => hout (.const v) rfl
          have ofn : ∀ f, ρ (.func f) = .func (.func f) #[] #[] := fun f => hout (.func f) rfl
          clear hdep hout
          refine .inl ⟨rfl, ?_⟩
          show GivesP _ _ _ (fun v _ => v = .slice (some ⟨g', 0, none⟩) 1 cap') _
          refine GivesP.val (.slice (some ⟨g', 0, none⟩) 1 cap') rfl ?_
          go_simp
        rcases i with _ | i
        · obtain rfl := Option.some.inj ho
          have o5 : ρ (.tmp 5) = .int .i64 ↑0 := hout (.tmp 5) rfl
          have ocn : ∀ v, ρ (.const v) = v := fun v => hout (.const v) rfl
          have ofn : ∀ f, ρ (.func f) = .func (.func f) #[] #[] := fun f => hout (.func f) rfl
          clear hdep hout
          refine .inl ⟨rfl, ?_⟩
          show GivesP _ _ _ (fun v _ => v = .int .i64 ↑0) _
          refine GivesP.val (.int .i64 ↑0) rfl ?_
          go_simp
        rcases i with _ | i
        · obtain rfl := Option.some.inj ho
          have e4 : ρ (.tmp 21) = .slice (some ⟨g', 0, none⟩) 1 cap' := (hdep ⟨4, .data⟩ (by simp) rfl 21 rfl).1
          have e5 : ρ (.tmp 22) = .int .i64 ↑0 := (hdep ⟨5, .data⟩ (by simp) rfl 22 rfl).1
          have ocn : ∀ v, ρ (.const v) = v := fun v => hout (.const v) rfl
          have ofn : ∀ f, ρ (.func f) = .func (.func f) #[] #[] := fun f => hout (.func f) rfl
          clear hdep hout
          refine .inl ⟨rfl, ?_⟩
          show GivesP _ _ _ (fun v _ => v = .pointer (some ⟨g', 0, none⟩)) _
          refine GivesP.val (.pointer (some ⟨g', 0, none⟩)) rfl ?_
          go_simp
        rcases i with _ | i
        · obtain rfl := Option.some.inj ho
          have e6 : ρ (.tmp 23) = .pointer (some ⟨g', 0, none⟩) := (hdep ⟨6, .data⟩ (by simp) rfl 23 rfl).1
          have ocn : ∀ v, ρ (.const v) = v := fun v => hout (.const v) rfl
          have ofn : ∀ f, ρ (.func f) = .func (.func f) #[] #[] := fun f => hout (.func f) rfl
          clear hdep hout
          refine .inl ⟨rfl, ?_⟩
          have rb := (HB2.out.later hBx HL2.out.2.2.2.1 HL2.out.2.2.2.2.1 HL2.out.2.2.2.2.2)
          obtain ⟨c0, c1, c2, c3, c4, c5, _, _, _, _, _, _, _, _, _⟩ := rb
          show GivesP _ _ _ (fun v _ => v = .agg #[.int .i64 (N 0), .int .i64 (N 1), .int .i64 (N 2), .slice (some ⟨ga', 0, none⟩) 3 3, .slice (some ⟨gb', 0, none⟩) 3 3, .int .i64 (N 9)]) _
          refine GivesP.val (.agg #[.int .i64 (N 0), .int .i64 (N 1), .int .i64 (N 2), .slice (some ⟨ga', 0, none⟩) 3 3, .slice (some ⟨gb', 0, none⟩) 3 3, .int .i64 (N 9)]) rfl ?_
          go_simp
        rcases i with _ | i
        · obtain rfl := Option.some.inj ho
          have e3 : ρ (.tmp 20) = .agg #[.int .i64 (N 0), .int .i64 (N 1), .int .i64 (N 2), .slice (some ⟨ga, 0, none⟩) 3 3, .slice (some ⟨gb, 0, none⟩) 3 3, .int .i64 (N 9)] := (hdep ⟨3, .data⟩ (by simp) rfl 20 rfl).1
          have e7 : ρ (.tmp 24) = .agg #[.int .i64 (N 0), .int .i64 (N 1), .int .i64 (N 2), .slice (some ⟨ga', 0, none⟩) 3 3, .slice (some ⟨gb', 0, none⟩) 3 3, .int .i64 (N 9)] := (hdep ⟨7, .data⟩ (by simp) rfl 24 rfl).1
          have ocn : ∀ v, ρ (.const v) = v := fun v => hout (.const v) rfl
          have ofn : ∀ f, ρ (.func f) = .func (.func f) #[] #[] := fun f => hout (.func f) rfl
          clear hdep hout
          refine .inl ⟨rfl, ?_⟩
          show GivesP _ _ _ (fun v _ => v = .bool true) _
          refine GivesP.call ((eqFrame_at x g ga gb g' ga' gb' 3 3 3 3 N (HA2.out.later hBx HL2.out.1 HL2.out.2.1 HL2.out.2.2.1) (HB2.out.later hBx HL2.out.2.2.2.1 HL2.out.2.2.2.2.1 HL2.out.2.2.2.2.2) (Nat.lt_of_lt_of_le HL2.out.2.1 hBx.size) (Nat.lt_of_lt_of_le HL2.out.2.2.1 hBx.size) (Nat.lt_of_lt_of_le HL2.out.2.2.2.2.1 hBx.size) (Nat.lt_of_lt_of_le HL2.out.2.2.2.2.2 hBx.size)).mono fun e w9 h9 => ⟨_, h9.1, rfl, h9.2⟩) ?_
          go_simp
        rcases i with _ | i
        · obtain rfl := Option.some.inj ho
          have e8 : ρ (.tmp 25) = .bool true := (hdep ⟨8, .data⟩ (by simp) rfl 25 rfl).1
          have ocn : ∀ v, ρ (.const v) = v := fun v => hout (.const v) rfl
          have ofn : ∀ f, ρ (.func f) = .func (.func f) #[] #[] := fun f => hout (.func f) rfl
          clear hdep hout
          refine .inl ⟨rfl, ?_⟩
          show GivesP _ _ _ (fun v _ => v = .bool false) _
          refine GivesP.val (.bool false) rfl ?_
          go_simp
        cases ho
      case last =>
        intro U z hBx hV
        have e9 : U 9 = .bool false := hV 9 (by simp)
        clear hV
        have hBf := HK.out.trans (hBx.mono HK.out.size)
        rw [e9]
        go_wp2_with fail
        go_roundw
        case rel => exact ⟨1, by omega, by go_num, hBf⟩
        case measure => simp [intOf]
    · obtain rfl : k = 1 := by omega
      go_wp2_with fail
      go_ret
      exact ⟨rfl, hBk⟩

end Go.Proofs.Ytpogahhfdneagaa
