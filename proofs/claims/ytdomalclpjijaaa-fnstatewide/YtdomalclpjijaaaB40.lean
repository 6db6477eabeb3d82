import Derived.Test.YtdomalclpjijaaaB39
import Derived.Test.YtdomalclpjijaaaB34
/-
  The walk of the law FnStateWide.
-/
namespace Go.Proofs.Ytdomalclpjijaaa
open Go.RowKit
set_option linter.unusedVariables false
set_option linter.unusedSimpArgs false

set_option maxRecDepth 100000 in
set_option maxHeartbeats 8000000 in
theorem stateWide_walk (a : Option Addr) (len cap : Nat) (zs : List Int) (w : World) (h : IsRow w a len cap zs) :
    Calls Try.prog 9 #[.slice a len cap] w fun e w' => e = .returned (.bool true) ∧ Below w.heap.size w w' := by
  have hm : len ≤ maxLen := by
    rcases h with ⟨rfl, rfl, rfl, rfl⟩ | ⟨x, rfl, hl, hm, hz, hcell, hwz⟩
    · unfold maxLen; omega
    · omega
  unfold maxLen at hm
  by_cases hl : (1048576 : Int) < (len : Int)
  · clear h
    go_enter Try.func9, Try.ntmps9
    go_wp2
    go_ret
    exact ⟨rfl, by go_grown⟩
  go_enter Try.func9, Try.ntmps9
  go_wp2_with fail
  refine (drawStateWide_any a len cap zs _ h).mono ?_
  rintro e x1 hg
  obtain ⟨a1, L1, c1, l1, u1, p1, cap1, a2, L2, c2, l2, u2, p2, cap2, rfl, hn1, hn2, hs1, hs2, hb⟩ := hg.it
  clear hg
  generalize hq1 : L1.length = n1 at hn1 hs1 ⊢
  generalize hq2 : L2.length = n2 at hn2 hs2 ⊢
  have HQ1 : Hid ((L1.length = n1 ∧ L1.length ≤ 1000) ∧ (L2.length = n2 ∧ L2.length ≤ 1000)) := ⟨⟨hq1, by omega⟩, ⟨hq2, by omega⟩⟩
  clear hq1 hq2 hn1 hn2
  have hA : Below x1.heap.size x1 ((x1.alloc (.cells #[.bool a1, .slice p1 n1 cap1, .bool c1, .int .i64 l1, .int .i64 u1] 31)).alloc (.cells #[.bool a2, .slice p2 n2 cap2, .bool c2, .int .i64 l2, .int .i64 u2] 31)) := ((Below.refl _ _).alloc (Nat.le_refl _) _).alloc (by simp) _
  have P1 : Hid (Pr ((x1.alloc (.cells #[.bool a1, .slice p1 n1 cap1, .bool c1, .int .i64 l1, .int .i64 u1] 31)).alloc (.cells #[.bool a2, .slice p2 n2 cap2, .bool c2, .int .i64 l2, .int .i64 u2] 31)) w.heap.size x1.heap.size x1.heap.size a1 p1 n1 cap1 c1 l1 u1 L1) := ⟨(Bx5.new _ _ _ _ _ _ _).alloc _, hs1.later hA⟩
  have P2 : Hid (Pr ((x1.alloc (.cells #[.bool a1, .slice p1 n1 cap1, .bool c1, .int .i64 l1, .int .i64 u1] 31)).alloc (.cells #[.bool a2, .slice p2 n2 cap2, .bool c2, .int .i64 l2, .int .i64 u2] 31)) w.heap.size x1.heap.size (x1.heap.size + 1) a2 p2 n2 cap2 c2 l2 u2 L2) := ⟨by have h9 := Bx5.new (x1.alloc (.cells #[.bool a1, .slice p1 n1 cap1, .bool c1, .int .i64 l1, .int .i64 u1] 31)) (.bool a2) (.slice p2 n2 cap2) (.bool c2) (.int .i64 l2) (.int .i64 u2) 31; rw [World.size_alloc] at h9; exact h9, hs2.later hA⟩
  have HB : Hid (Below w.heap.size w ((x1.alloc (.cells #[.bool a1, .slice p1 n1 cap1, .bool c1, .int .i64 l1, .int .i64 u1] 31)).alloc (.cells #[.bool a2, .slice p2 n2 cap2, .bool c2, .int .i64 l2, .int .i64 u2] 31))) := hb.trans (hA.mono hb.size)
  clear hA hs1 hs2 hb h
  obtain ⟨_, P1_0, P1_1, P1_2, P1_3, P1_4, _⟩ := P1.out.box
  obtain ⟨_, P2_0, P2_1, P2_2, P2_3, P2_4, _⟩ := P2.out.box
  go_wp2_with fail
  clear P1_0 P1_1 P1_2 P1_3 P1_4 P2_0 P2_1 P2_2 P2_3 P2_4
  generalize ((x1.alloc (.cells #[.bool a1, .slice p1 n1 cap1, .bool c1, .int .i64 l1, .int .i64 u1] 31)).alloc (.cells #[.bool a2, .slice p2 n2 cap2, .bool c2, .int .i64 l2, .int .i64 u2] 31)) = y1 at P1 P2 HB ⊢
  obtain ⟨⟨ra, rL, rc, rl, ru⟩, hr⟩ : ∃ r, stW a1 L1 (c1, l1, u1) a2 L2 (c2, l2, u2) = r := ⟨_, rfl⟩
  obtain ⟨⟨ja, jL, jc, jl, ju⟩, hj⟩ : ∃ r, stJ a1 L1 (c1, l1, u1) a2 L2 (c2, l2, u2) = r := ⟨_, rfl⟩
  have HR : Hid (stBoth true a1 L1 (c1, l1, u1) a2 L2 (c2, l2, u2) = (ra, rL, rc, rl, ru)) := hr
  have HJ : Hid (stBoth false a1 L1 (c1, l1, u1) a2 L2 (c2, l2, u2) = (ja, jL, jc, jl, ju)) := hj
  have hlr : rL.length ≤ 3 := by have h9 := stBoth_len true a1 L1 (c1, l1, u1) a2 L2 (c2, l2, u2); rw [HR.out] at h9; exact h9
  clear hr hj
  refine (stWide_impl _ true true _ _ _ _ _ _ L1 _ _ _ _ _ L2 _ _ _ P1.out.row P2.out.row).mono ?_
  rintro e x5 ⟨v5, rfl, hs5, hb⟩
  rw [HR.out] at hs5 ⊢
  replace HB : Hid (Below w.heap.size w x5) := HB.out.trans (hb.mono HB.out.size)
  replace P1 : Hid (Pr x5 w.heap.size x1.heap.size x1.heap.size a1 p1 n1 cap1 c1 l1 u1 L1) := P1.out.later hb
  replace P2 : Hid (Pr x5 w.heap.size x1.heap.size (x1.heap.size + 1) a2 p2 n2 cap2 c2 l2 u2 L2) := P2.out.later hb
  clear hb
  obtain ⟨p5, cap5, hv5⟩ := hs5.shape
  simp only at hv5 hs5
  generalize hq5 : rL.length = n5 at hv5 hlr
  subst hv5
  have HQ5 : Hid (rL.length = n5 ∧ rL.length ≤ 1000) := ⟨hq5, by omega⟩
  clear hq5
  have hA : Below x5.heap.size x5 (x5.alloc (.cells #[.bool ra, .slice p5 n5 cap5, .bool rc, .int .i64 rl, .int .i64 ru] 31)) := (Below.refl _ _).alloc (Nat.le_refl _) _
  have P5 := Pr.made (a := ra) (c := rc) (l := rl) (u := ru) 31 hs5
  replace P5 : Hid (Pr (x5.alloc (.cells #[.bool ra, .slice p5 n5 cap5, .bool rc, .int .i64 rl, .int .i64 ru] 31)) y1.heap.size x5.heap.size x5.heap.size ra p5 n5 cap5 rc rl ru rL) := P5
  replace HB : Hid (Below w.heap.size w (x5.alloc (.cells #[.bool ra, .slice p5 n5 cap5, .bool rc, .int .i64 rl, .int .i64 ru] 31))) := HB.out.trans (hA.mono HB.out.size)
  replace P1 : Hid (Pr (x5.alloc (.cells #[.bool ra, .slice p5 n5 cap5, .bool rc, .int .i64 rl, .int .i64 ru] 31)) w.heap.size x1.heap.size x1.heap.size a1 p1 n1 cap1 c1 l1 u1 L1) := P1.out.later hA
  replace P2 : Hid (Pr (x5.alloc (.cells #[.bool ra, .slice p5 n5 cap5, .bool rc, .int .i64 rl, .int .i64 ru] 31)) w.heap.size x1.heap.size (x1.heap.size + 1) a2 p2 n2 cap2 c2 l2 u2 L2) := P2.out.later hA
  clear hA hs5
  obtain ⟨_, P1_0, P1_1, P1_2, P1_3, P1_4, _⟩ := P1.out.box
  obtain ⟨_, P2_0, P2_1, P2_2, P2_3, P2_4, _⟩ := P2.out.box
  obtain ⟨_, P5_0, P5_1, P5_2, P5_3, P5_4, _⟩ := P5.out.box
  go_wp2_with fail
  clear P1_0 P1_1 P1_2 P1_3 P1_4 P2_0 P2_1 P2_2 P2_3 P2_4 P5_0 P5_1 P5_2 P5_3 P5_4
  generalize x5.alloc (.cells #[.bool ra, .slice p5 n5 cap5, .bool rc, .int .i64 rl, .int .i64 ru] 31) = y5 at P1 P2 P5 HB ⊢
  cases hoa : stOk a1 L1 (c1, l1, u1)
  · skip
    have HAo : Hid (stOk a1 L1 (c1, l1, u1) = false) := hoa
    clear hoa
    go_cut [32] (fun s y => s = .bool true ∧ Hid (Below w.heap.size w y) ∧ Hid (Pr y w.heap.size x1.heap.size x1.heap.size a1 p1 n1 cap1 c1 l1 u1 L1) ∧ Hid (Pr y w.heap.size x1.heap.size (x1.heap.size + 1) a2 p2 n2 cap2 c2 l2 u2 L2) ∧ Hid (Pr y y1.heap.size x5.heap.size x5.heap.size ra p5 n5 cap5 rc rl ru rL))
    case first =>
      have hBd : Below y5.heap.size y5 y5.drew := (Below.refl _ _).drew
      refine wp_region_preds (by kernel_rfl) (by kernel_rfl) (by kernel_rfl) (by kernel_rfl) (fun j => [(fun v _ => v = .agg #[.bool ra, .slice p5 n5 cap5, .bool rc, .int .i64 rl, .int .i64 ru]), (fun v _ => v = .agg #[.bool a1, .slice p1 n1 cap1, .bool c1, .int .i64 l1, .int .i64 u1]), (fun v _ => v = .agg #[.bool a2, .slice p2 n2 cap2, .bool c2, .int .i64 l2, .int .i64 u2]), (fun v x => StV (ra, rL, rc, rl, ru) v x), (fun v _ => v = .bool true), (fun v _ => v = .bool false), (fun v _ => v = .bool false), (fun v _ => v = .agg #[.bool a1, .slice p1 n1 cap1, .bool c1, .int .i64 l1, .int .i64 u1]), (fun v _ => v = .bool false), (fun v _ => v = .bool true), (fun v _ => v = .bool true), (fun v _ => v = .bool true), (fun v _ => v = undef), (fun v _ => v = undef), (fun v _ => v = undef), (fun v _ => v = .bool true)].getD j (fun _ _ => True)) ?stable y5 hBd ?step (fun V => ⟨List.toArray ((Value.slice a len cap) :: (undef) :: (Value.bool false) :: (Value.pointer (some { block := x1.heap.size, off := 0 })) :: (Value.pointer (some { block := x1.heap.size + 1, off := 0 })) :: (Value.pointer (some { block := x5.heap.size, off := 0 })) :: (Value.slice a len cap) :: (Value.int IntKind.i64 ↑len) :: (Value.bool false) :: (Value.tuple #[Value.agg #[Value.bool a1, Value.slice p1 n1 cap1, Value.bool c1, Value.int IntKind.i64 l1, Value.int IntKind.i64 u1], Value.agg #[Value.bool a2, Value.slice p2 n2 cap2, Value.bool c2, Value.int IntKind.i64 l2, Value.int IntKind.i64 u2]]) :: (Value.slice a len cap) :: (Value.tuple #[Value.agg #[Value.bool a1, Value.slice p1 n1 cap1, Value.bool c1, Value.int IntKind.i64 l1, Value.int IntKind.i64 u1], Value.agg #[Value.bool a2, Value.slice p2 n2 cap2, Value.bool c2, Value.int IntKind.i64 l2, Value.int IntKind.i64 u2]]) :: (Value.agg #[Value.bool a1, Value.slice p1 n1 cap1, Value.bool c1, Value.int IntKind.i64 l1, Value.int IntKind.i64 u1]) :: (Value.agg #[Value.bool a2, Value.slice p2 n2 cap2, Value.bool c2, Value.int IntKind.i64 l2, Value.int IntKind.i64 u2]) :: (Value.agg #[Value.bool a1, Value.slice p1 n1 cap1, Value.bool c1, Value.int IntKind.i64 l1, Value.int IntKind.i64 u1]) :: (Value.agg #[Value.bool a2, Value.slice p2 n2 cap2, Value.bool c2, Value.int IntKind.i64 l2, Value.int IntKind.i64 u2]) :: (Value.agg #[Value.bool ra, Value.slice p5 n5 cap5, Value.bool rc, Value.int IntKind.i64 rl, Value.int IntKind.i64 ru]) :: (V 0) :: (V 1) :: (V 2) :: (V 3) :: (V 4) :: (V 5) :: (V 6) :: (V 7) :: (V 8) :: (V 9) :: (V 10) :: (V 11) :: (V 12) :: (V 13) :: (V 14) :: (V 15) :: (undef) :: (undef) :: (undef) :: (undef) :: (undef) :: (undef) :: (undef) :: (undef) :: (undef) :: (undef) :: (undef) :: (undef) :: (undef) :: (undef) :: (undef) :: (undef) :: (undef) :: (undef) :: (undef) :: (undef) :: (undef) :: (undef) :: (undef) :: []), []⟩) (fun V => by kernel_rfl) ?fin
      case stable =>
        intro i v x y ht hb
        rcases i with _ | i
        · exact ht
        rcases i with _ | i
        · exact ht
        rcases i with _ | i
        · exact ht
        rcases i with _ | i
        · exact StV.later ht hb
        rcases i with _ | i
        · exact ht
        rcases i with _ | i
        · exact ht
        rcases i with _ | i
        · exact ht
        rcases i with _ | i
        · exact ht
        rcases i with _ | i
        · exact ht
        rcases i with _ | i
        · exact ht
        rcases i with _ | i
        · exact ht
        rcases i with _ | i
        · exact ht
        rcases i with _ | i
        · exact ht
        rcases i with _ | i
        · exact ht
        rcases i with _ | i
        · exact ht
        rcases i with _ | i
        · exact ht
        exact trivial
      case step =>
        intro i o ho ρ y x hBx hdep hout
        rcases i with _ | i
        · obtain rfl := Option.some.inj ho
          have o5 : ρ (.tmp 5) = Value.pointer (some { block := x5.heap.size, off := 0 }) := hout (.tmp 5) rfl
          have ocn : ∀ v, ρ (.const v) = v := fun v => hout (.const v) rfl
          have ofn : ∀ f, ρ (.func f) = .func (.func f) #[] #[] := fun f => hout (.func f) rfl
          clear hdep hout
          refine .inl ⟨?_, ?_⟩
          · rfl
          obtain ⟨_, cc0, cc1, cc2, cc3, cc4, _⟩ := (P5.out.later hBx).box
          show GivesP _ _ _ (fun v _ => v = .agg #[.bool ra, .slice p5 n5 cap5, .bool rc, .int .i64 rl, .int .i64 ru]) _
          refine GivesP.val (.agg #[.bool ra, .slice p5 n5 cap5, .bool rc, .int .i64 rl, .int .i64 ru]) rfl ?_
          go_simp
        rcases i with _ | i
        · obtain rfl := Option.some.inj ho
          have o3 : ρ (.tmp 3) = Value.pointer (some { block := x1.heap.size, off := 0 }) := hout (.tmp 3) rfl
          have ocn : ∀ v, ρ (.const v) = v := fun v => hout (.const v) rfl
          have ofn : ∀ f, ρ (.func f) = .func (.func f) #[] #[] := fun f => hout (.func f) rfl
          clear hdep hout
          refine .inl ⟨?_, ?_⟩
          · rfl
          obtain ⟨_, cc0, cc1, cc2, cc3, cc4, _⟩ := (P1.out.later hBx).box
          show GivesP _ _ _ (fun v _ => v = .agg #[.bool a1, .slice p1 n1 cap1, .bool c1, .int .i64 l1, .int .i64 u1]) _
          refine GivesP.val (.agg #[.bool a1, .slice p1 n1 cap1, .bool c1, .int .i64 l1, .int .i64 u1]) rfl ?_
          go_simp
        rcases i with _ | i
        · obtain rfl := Option.some.inj ho
          have o4 : ρ (.tmp 4) = Value.pointer (some { block := x1.heap.size + 1, off := 0 }) := hout (.tmp 4) rfl
          have ocn : ∀ v, ρ (.const v) = v := fun v => hout (.const v) rfl
          have ofn : ∀ f, ρ (.func f) = .func (.func f) #[] #[] := fun f => hout (.func f) rfl
          clear hdep hout
          refine .inl ⟨?_, ?_⟩
          · rfl
          obtain ⟨_, cc0, cc1, cc2, cc3, cc4, _⟩ := (P2.out.later hBx).box
          show GivesP _ _ _ (fun v _ => v = .agg #[.bool a2, .slice p2 n2 cap2, .bool c2, .int .i64 l2, .int .i64 u2]) _
          refine GivesP.val (.agg #[.bool a2, .slice p2 n2 cap2, .bool c2, .int .i64 l2, .int .i64 u2]) rfl ?_
          go_simp
        rcases i with _ | i
        · obtain rfl := Option.some.inj ho
          have e1 : ρ (.tmp 18) = .agg #[.bool a1, .slice p1 n1 cap1, .bool c1, .int .i64 l1, .int .i64 u1] := (hdep ⟨1, .data⟩ (by simp) rfl 18 rfl).1
          have e2 : ρ (.tmp 19) = .agg #[.bool a2, .slice p2 n2 cap2, .bool c2, .int .i64 l2, .int .i64 u2] := (hdep ⟨2, .data⟩ (by simp) rfl 19 rfl).1
          have ocn : ∀ v, ρ (.const v) = v := fun v => hout (.const v) rfl
          have ofn : ∀ f, ρ (.func f) = .func (.func f) #[] #[] := fun f => hout (.func f) rfl
          clear hdep hout
          refine .inl ⟨?_, ?_⟩
          · rfl
          show GivesP _ _ _ (fun v x => StV (ra, rL, rc, rl, ru) v x) _
          refine GivesP.call ((stWide_spec x true true _ _ _ _ _ _ L1 _ _ _ _ _ L2 _ _ _ (P1.out.later hBx).row (P2.out.later hBx).row).mono fun e w9 h9 => stV_of h9 HR.out) ?_
          go_simp
        rcases i with _ | i
        · obtain rfl := Option.some.inj ho
          have e0 : ρ (.tmp 17) = .agg #[.bool ra, .slice p5 n5 cap5, .bool rc, .int .i64 rl, .int .i64 ru] := (hdep ⟨0, .data⟩ (by simp) rfl 17 rfl).1
          have t3 : StV (ra, rL, rc, rl, ru) (ρ (.tmp 20)) x := (hdep ⟨3, .data⟩ (by simp) rfl 20 rfl).1
          obtain ⟨q3, k3, B3, E3, e3, s3⟩ := t3
          have ocn : ∀ v, ρ (.const v) = v := fun v => hout (.const v) rfl
          have ofn : ∀ f, ρ (.func f) = .func (.func f) #[] #[] := fun f => hout (.func f) rfl
          clear hdep hout
          refine .inl ⟨?_, ?_⟩
          · rfl
          show GivesP _ _ _ (fun v _ => v = .bool true) _
          refine GivesP.call ((lgState_same x true true _ _ _ _ ra _ _ rL rc rl ru ((P5.out.later hBx).row) s3).mono fun e w9 h9 => ⟨_, h9.1, rfl, h9.2⟩) ?_
          go_simp
        rcases i with _ | i
        · obtain rfl := Option.some.inj ho
          have e4 : ρ (.tmp 21) = .bool true := (hdep ⟨4, .data⟩ (by simp) rfl 21 rfl).1
          have ocn : ∀ v, ρ (.const v) = v := fun v => hout (.const v) rfl
          have ofn : ∀ f, ρ (.func f) = .func (.func f) #[] #[] := fun f => hout (.func f) rfl
          clear hdep hout
          refine .inl ⟨?_, ?_⟩
          · rfl
          show GivesP _ _ _ (fun v _ => v = .bool false) _
          refine GivesP.val (.bool false) rfl ?_
          go_simp
        rcases i with _ | i
        · obtain rfl := Option.some.inj ho
          have e5 : ρ (.tmp 22) = .bool false := (hdep ⟨5, .data⟩ (by simp) rfl 22 rfl).1
          have ocn : ∀ v, ρ (.const v) = v := fun v => hout (.const v) rfl
          have ofn : ∀ f, ρ (.func f) = .func (.func f) #[] #[] := fun f => hout (.func f) rfl
          clear hdep hout
          refine .inl ⟨?_, ?_⟩
          · rfl
          show GivesP _ _ _ (fun v _ => v = .bool false) _
          refine GivesP.val (.bool false) rfl ?_
          go_simp
        rcases i with _ | i
        · obtain rfl := Option.some.inj ho
          have o3 : ρ (.tmp 3) = Value.pointer (some { block := x1.heap.size, off := 0 }) := hout (.tmp 3) rfl
          have eg : ρ (.tmp 23) = .bool false := (hdep ⟨6, .guard⟩ (by simp) rfl 23 rfl).1
          have yg : y 6 = some false := (hdep ⟨6, .guard⟩ (by simp) rfl 23 rfl).2.trans (by rw [eg]; rfl)
          have ocn : ∀ v, ρ (.const v) = v := fun v => hout (.const v) rfl
          have ofn : ∀ f, ρ (.func f) = .func (.func f) #[] #[] := fun f => hout (.func f) rfl
          clear hdep hout
          refine .inl ⟨?_, ?_⟩
          · show (y 6 == some false) = true
            rw [yg]; rfl
          obtain ⟨_, cc0, cc1, cc2, cc3, cc4, _⟩ := (P1.out.later hBx).box
          show GivesP _ _ _ (fun v _ => v = .agg #[.bool a1, .slice p1 n1 cap1, .bool c1, .int .i64 l1, .int .i64 u1]) _
          refine GivesP.val (.agg #[.bool a1, .slice p1 n1 cap1, .bool c1, .int .i64 l1, .int .i64 u1]) rfl ?_
          go_simp
        rcases i with _ | i
        · obtain rfl := Option.some.inj ho
          have e7 : ρ (.tmp 24) = .agg #[.bool a1, .slice p1 n1 cap1, .bool c1, .int .i64 l1, .int .i64 u1] := (hdep ⟨7, .data⟩ (by simp) rfl 24 rfl).1
          have eg : ρ (.tmp 23) = .bool false := (hdep ⟨6, .guard⟩ (by simp) rfl 23 rfl).1
          have yg : y 6 = some false := (hdep ⟨6, .guard⟩ (by simp) rfl 23 rfl).2.trans (by rw [eg]; rfl)
          have ocn : ∀ v, ρ (.const v) = v := fun v => hout (.const v) rfl
          have ofn : ∀ f, ρ (.func f) = .func (.func f) #[] #[] := fun f => hout (.func f) rfl
          clear hdep hout
          refine .inl ⟨?_, ?_⟩
          · show (y 6 == some false) = true
            rw [yg]; rfl
          show GivesP _ _ _ (fun v _ => v = .bool false) _
          refine GivesP.call ((stOk_spec x true _ _ _ _ L1 _ _ _ (P1.out.later hBx).row).mono fun e w9 h9 => ⟨_, h9.1, by rw [HAo.out], h9.2⟩) ?_
          go_simp
        rcases i with _ | i
        · obtain rfl := Option.some.inj ho
          have e8 : ρ (.tmp 25) = .bool false := (hdep ⟨8, .data⟩ (by simp) rfl 25 rfl).1
          have eg : ρ (.tmp 23) = .bool false := (hdep ⟨6, .guard⟩ (by simp) rfl 23 rfl).1
          have yg : y 6 = some false := (hdep ⟨6, .guard⟩ (by simp) rfl 23 rfl).2.trans (by rw [eg]; rfl)
          have ocn : ∀ v, ρ (.const v) = v := fun v => hout (.const v) rfl
          have ofn : ∀ f, ρ (.func f) = .func (.func f) #[] #[] := fun f => hout (.func f) rfl
          clear hdep hout
          refine .inl ⟨?_, ?_⟩
          · show (y 6 == some false) = true
            rw [yg]; rfl
          show GivesP _ _ _ (fun v _ => v = .bool true) _
          refine GivesP.val (.bool true) rfl ?_
          go_simp
        rcases i with _ | i
        · obtain rfl := Option.some.inj ho
          have e6 : ρ (.tmp 23) = .bool false := (hdep ⟨6, .data⟩ (by simp) rfl 23 rfl).1
          have e9 : ρ (.tmp 26) = .bool true := (hdep ⟨9, .data⟩ (by simp) rfl 26 rfl).1
          have ocn : ∀ v, ρ (.const v) = v := fun v => hout (.const v) rfl
          have ofn : ∀ f, ρ (.func f) = .func (.func f) #[] #[] := fun f => hout (.func f) rfl
          clear hdep hout
          refine .inl ⟨?_, ?_⟩
          · rfl
          show GivesP _ _ _ (fun v _ => v = .bool true) _
          refine GivesP.val (.bool true) rfl ?_
          go_simp
        rcases i with _ | i
        · obtain rfl := Option.some.inj ho
          have e10 : ρ (.tmp 27) = .bool true := (hdep ⟨10, .data⟩ (by simp) rfl 27 rfl).1
          have ocn : ∀ v, ρ (.const v) = v := fun v => hout (.const v) rfl
          have ofn : ∀ f, ρ (.func f) = .func (.func f) #[] #[] := fun f => hout (.func f) rfl
          clear hdep hout
          refine .inl ⟨?_, ?_⟩
          · rfl
          show GivesP _ _ _ (fun v _ => v = .bool true) _
          refine GivesP.val (.bool true) rfl ?_
          go_simp
        rcases i with _ | i
        · obtain rfl := Option.some.inj ho
          have o4 : ρ (.tmp 4) = Value.pointer (some { block := x1.heap.size + 1, off := 0 }) := hout (.tmp 4) rfl
          have eg : ρ (.tmp 28) = .bool true := (hdep ⟨11, .guard⟩ (by simp) rfl 28 rfl).1
          have yg : y 11 = some true := (hdep ⟨11, .guard⟩ (by simp) rfl 28 rfl).2.trans (by rw [eg]; rfl)
          have ocn : ∀ v, ρ (.const v) = v := fun v => hout (.const v) rfl
          have ofn : ∀ f, ρ (.func f) = .func (.func f) #[] #[] := fun f => hout (.func f) rfl
          clear hdep hout
          refine .inr ⟨?_, rfl⟩
          show (y 11 == some false) = false
          rw [yg]; rfl
        rcases i with _ | i
        · obtain rfl := Option.some.inj ho
          have e12 : ρ (.tmp 29) = undef := (hdep ⟨12, .data⟩ (by simp) rfl 29 rfl).1
          have eg : ρ (.tmp 28) = .bool true := (hdep ⟨11, .guard⟩ (by simp) rfl 28 rfl).1
          have yg : y 11 = some true := (hdep ⟨11, .guard⟩ (by simp) rfl 28 rfl).2.trans (by rw [eg]; rfl)
          have ocn : ∀ v, ρ (.const v) = v := fun v => hout (.const v) rfl
          have ofn : ∀ f, ρ (.func f) = .func (.func f) #[] #[] := fun f => hout (.func f) rfl
          clear hdep hout
          refine .inr ⟨?_, rfl⟩
          show (y 11 == some false) = false
          rw [yg]; rfl
        rcases i with _ | i
        · obtain rfl := Option.some.inj ho
          have e13 : ρ (.tmp 30) = undef := (hdep ⟨13, .data⟩ (by simp) rfl 30 rfl).1
          have eg : ρ (.tmp 28) = .bool true := (hdep ⟨11, .guard⟩ (by simp) rfl 28 rfl).1
          have yg : y 11 = some true := (hdep ⟨11, .guard⟩ (by simp) rfl 28 rfl).2.trans (by rw [eg]; rfl)
          have ocn : ∀ v, ρ (.const v) = v := fun v => hout (.const v) rfl
          have ofn : ∀ f, ρ (.func f) = .func (.func f) #[] #[] := fun f => hout (.func f) rfl
          clear hdep hout
          refine .inr ⟨?_, rfl⟩
          show (y 11 == some false) = false
          rw [yg]; rfl
        rcases i with _ | i
        · obtain rfl := Option.some.inj ho
          have e11 : ρ (.tmp 28) = .bool true := (hdep ⟨11, .data⟩ (by simp) rfl 28 rfl).1
          have e14 : ρ (.tmp 31) = undef := (hdep ⟨14, .data⟩ (by simp) rfl 31 rfl).1
          have ocn : ∀ v, ρ (.const v) = v := fun v => hout (.const v) rfl
          have ofn : ∀ f, ρ (.func f) = .func (.func f) #[] #[] := fun f => hout (.func f) rfl
          clear hdep hout
          refine .inl ⟨?_, ?_⟩
          · rfl
          show GivesP _ _ _ (fun v _ => v = .bool true) _
          refine GivesP.val (.bool true) rfl ?_
          go_simp
        cases ho
      case fin =>
        intro V x hBx hV
        have ev : V 15 = .bool true := hV 15 (by simp)
        clear hV
        go_wp2_with fail
        go_meet
        exact ⟨ev, HB.out.trans (hBx.mono HB.out.size), P1.out.later hBx, P2.out.later hBx, P5.out.later hBx⟩
    case rest =>
    rename World => z1
    clear HB P1 P2 P5
    obtain ⟨rfl, HB, P1, P2, P5⟩ := hcut
    go_wp2_with fail
    go_cut [2] (fun s y => s = .bool true ∧ Hid (Below w.heap.size w y) ∧ Hid (Pr y w.heap.size x1.heap.size x1.heap.size a1 p1 n1 cap1 c1 l1 u1 L1) ∧ Hid (Pr y w.heap.size x1.heap.size (x1.heap.size + 1) a2 p2 n2 cap2 c2 l2 u2 L2) ∧ Hid (Pr y y1.heap.size x5.heap.size x5.heap.size ra p5 n5 cap5 rc rl ru rL))
    case first =>
      have hBd : Below z1.heap.size z1 z1.drew := (Below.refl _ _).drew
      refine wp_region_preds (by kernel_rfl) (by kernel_rfl) (by kernel_rfl) (by kernel_rfl) (fun j => [(fun v _ => v = .agg #[.bool ra, .slice p5 n5 cap5, .bool rc, .int .i64 rl, .int .i64 ru]), (fun v _ => v = .agg #[.bool a1, .slice p1 n1 cap1, .bool c1, .int .i64 l1, .int .i64 u1]), (fun v _ => v = .agg #[.bool a2, .slice p2 n2 cap2, .bool c2, .int .i64 l2, .int .i64 u2]), (fun v x => StV (ra, rL, rc, rl, ru) v x), (fun v _ => v = .bool true), (fun v _ => v = .bool true)].getD j (fun _ _ => True)) ?stable z1 hBd ?step (fun V => ⟨List.toArray ((Value.slice a len cap) :: (undef) :: (V 5) :: (Value.pointer (some { block := x1.heap.size, off := 0 })) :: (Value.pointer (some { block := x1.heap.size + 1, off := 0 })) :: (Value.pointer (some { block := x5.heap.size, off := 0 })) :: (u6) :: (u7) :: (u8) :: (u9) :: (u10) :: (u11) :: (u12) :: (u13) :: (u14) :: (u15) :: (u16) :: (u17) :: (u18) :: (u19) :: (u20) :: (u21) :: (u22) :: (u23) :: (u24) :: (u25) :: (u26) :: (u27) :: (u28) :: (u29) :: (u30) :: (u31) :: (Value.bool true) :: (V 0) :: (V 1) :: (V 2) :: (V 3) :: (V 4) :: (u38) :: (u39) :: (u40) :: (u41) :: (u42) :: (u43) :: (u44) :: (u45) :: (u46) :: (u47) :: (u48) :: (u49) :: (u50) :: (u51) :: (u52) :: (u53) :: (u54) :: (u55) :: []), []⟩) (fun V => by kernel_rfl) ?fin
      case stable =>
        intro i v x y ht hb
        rcases i with _ | i
        · exact ht
        rcases i with _ | i
        · exact ht
        rcases i with _ | i
        · exact ht
        rcases i with _ | i
        · exact StV.later ht hb
        rcases i with _ | i
        · exact ht
        rcases i with _ | i
        · exact ht
        exact trivial
      case step =>
        intro i o ho ρ y x hBx hdep hout
        rcases i with _ | i
        · obtain rfl := Option.some.inj ho
          have o5 : ρ (.tmp 5) = Value.pointer (some { block := x5.heap.size, off := 0 }) := hout (.tmp 5) rfl
          have ocn : ∀ v, ρ (.const v) = v := fun v => hout (.const v) rfl
          have ofn : ∀ f, ρ (.func f) = .func (.func f) #[] #[] := fun f => hout (.func f) rfl
          clear hdep hout
          refine .inl ⟨?_, ?_⟩
          · rfl
          obtain ⟨_, cc0, cc1, cc2, cc3, cc4, _⟩ := (P5.out.later hBx).box
          show GivesP _ _ _ (fun v _ => v = .agg #[.bool ra, .slice p5 n5 cap5, .bool rc, .int .i64 rl, .int .i64 ru]) _
          refine GivesP.val (.agg #[.bool ra, .slice p5 n5 cap5, .bool rc, .int .i64 rl, .int .i64 ru]) rfl ?_
          go_simp
        rcases i with _ | i
        · obtain rfl := Option.some.inj ho
          have o3 : ρ (.tmp 3) = Value.pointer (some { block := x1.heap.size, off := 0 }) := hout (.tmp 3) rfl
          have ocn : ∀ v, ρ (.const v) = v := fun v => hout (.const v) rfl
          have ofn : ∀ f, ρ (.func f) = .func (.func f) #[] #[] := fun f => hout (.func f) rfl
          clear hdep hout
          refine .inl ⟨?_, ?_⟩
          · rfl
          obtain ⟨_, cc0, cc1, cc2, cc3, cc4, _⟩ := (P1.out.later hBx).box
          show GivesP _ _ _ (fun v _ => v = .agg #[.bool a1, .slice p1 n1 cap1, .bool c1, .int .i64 l1, .int .i64 u1]) _
          refine GivesP.val (.agg #[.bool a1, .slice p1 n1 cap1, .bool c1, .int .i64 l1, .int .i64 u1]) rfl ?_
          go_simp
        rcases i with _ | i
        · obtain rfl := Option.some.inj ho
          have o4 : ρ (.tmp 4) = Value.pointer (some { block := x1.heap.size + 1, off := 0 }) := hout (.tmp 4) rfl
          have ocn : ∀ v, ρ (.const v) = v := fun v => hout (.const v) rfl
          have ofn : ∀ f, ρ (.func f) = .func (.func f) #[] #[] := fun f => hout (.func f) rfl
          clear hdep hout
          refine .inl ⟨?_, ?_⟩
          · rfl
          obtain ⟨_, cc0, cc1, cc2, cc3, cc4, _⟩ := (P2.out.later hBx).box
          show GivesP _ _ _ (fun v _ => v = .agg #[.bool a2, .slice p2 n2 cap2, .bool c2, .int .i64 l2, .int .i64 u2]) _
          refine GivesP.val (.agg #[.bool a2, .slice p2 n2 cap2, .bool c2, .int .i64 l2, .int .i64 u2]) rfl ?_
          go_simp
        rcases i with _ | i
        · obtain rfl := Option.some.inj ho
          have e1 : ρ (.tmp 34) = .agg #[.bool a1, .slice p1 n1 cap1, .bool c1, .int .i64 l1, .int .i64 u1] := (hdep ⟨1, .data⟩ (by simp) rfl 34 rfl).1
          have e2 : ρ (.tmp 35) = .agg #[.bool a2, .slice p2 n2 cap2, .bool c2, .int .i64 l2, .int .i64 u2] := (hdep ⟨2, .data⟩ (by simp) rfl 35 rfl).1
          have ocn : ∀ v, ρ (.const v) = v := fun v => hout (.const v) rfl
          have ofn : ∀ f, ρ (.func f) = .func (.func f) #[] #[] := fun f => hout (.func f) rfl
          clear hdep hout
          refine .inl ⟨?_, ?_⟩
          · rfl
          show GivesP _ _ _ (fun v x => StV (ra, rL, rc, rl, ru) v x) _
          refine GivesP.call ((stWide_spec x true true _ _ _ _ _ _ L1 _ _ _ _ _ L2 _ _ _ (P1.out.later hBx).row (P2.out.later hBx).row).mono fun e w9 h9 => stV_of h9 HR.out) ?_
          go_simp
        rcases i with _ | i
        · obtain rfl := Option.some.inj ho
          have e0 : ρ (.tmp 33) = .agg #[.bool ra, .slice p5 n5 cap5, .bool rc, .int .i64 rl, .int .i64 ru] := (hdep ⟨0, .data⟩ (by simp) rfl 33 rfl).1
          have t3 : StV (ra, rL, rc, rl, ru) (ρ (.tmp 36)) x := (hdep ⟨3, .data⟩ (by simp) rfl 36 rfl).1
          obtain ⟨q3, k3, B3, E3, e3, s3⟩ := t3
          have ocn : ∀ v, ρ (.const v) = v := fun v => hout (.const v) rfl
          have ofn : ∀ f, ρ (.func f) = .func (.func f) #[] #[] := fun f => hout (.func f) rfl
          clear hdep hout
          refine .inl ⟨?_, ?_⟩
          · rfl
          show GivesP _ _ _ (fun v _ => v = .bool true) _
          refine GivesP.call ((lgState_same x true true _ _ _ _ ra _ _ rL rc rl ru ((P5.out.later hBx).row) s3).mono fun e w9 h9 => ⟨_, h9.1, rfl, h9.2⟩) ?_
          go_simp
        rcases i with _ | i
        · obtain rfl := Option.some.inj ho
          have e4 : ρ (.tmp 37) = .bool true := (hdep ⟨4, .data⟩ (by simp) rfl 37 rfl).1
          have ocn : ∀ v, ρ (.const v) = v := fun v => hout (.const v) rfl
          have ofn : ∀ f, ρ (.func f) = .func (.func f) #[] #[] := fun f => hout (.func f) rfl
          clear hdep hout
          refine .inl ⟨?_, ?_⟩
          · rfl
          show GivesP _ _ _ (fun v _ => v = .bool true) _
          refine GivesP.val (.bool true) rfl ?_
          go_simp
        cases ho
      case fin =>
        intro V x hBx hV
        have ev : V 5 = .bool true := hV 5 (by simp)
        clear hV
        go_wp2_with fail
        go_meet
        exact ⟨ev, HB.out.trans (hBx.mono HB.out.size), P1.out.later hBx, P2.out.later hBx, P5.out.later hBx⟩
    case rest =>
    rename World => z2
    clear HB P1 P2 P5
    obtain ⟨rfl, HB, P1, P2, P5⟩ := hcut
    go_wp2_with fail
    go_ret
    exact ⟨rfl, HB.out⟩
  · skip
    have HAo : Hid (stOk a1 L1 (c1, l1, u1) = true) := hoa
    clear hoa
    cases hob : stOk a2 L2 (c2, l2, u2)
    · skip
      have HBo : Hid (stOk a2 L2 (c2, l2, u2) = false) := hob
      clear hob
      go_cut [32] (fun s y => s = .bool true ∧ Hid (Below w.heap.size w y) ∧ Hid (Pr y w.heap.size x1.heap.size x1.heap.size a1 p1 n1 cap1 c1 l1 u1 L1) ∧ Hid (Pr y w.heap.size x1.heap.size (x1.heap.size + 1) a2 p2 n2 cap2 c2 l2 u2 L2) ∧ Hid (Pr y y1.heap.size x5.heap.size x5.heap.size ra p5 n5 cap5 rc rl ru rL))
      case first =>
        have hBd : Below y5.heap.size y5 y5.drew := (Below.refl _ _).drew
        refine wp_region_preds (by kernel_rfl) (by kernel_rfl) (by kernel_rfl) (by kernel_rfl) (fun j => [(fun v _ => v = .agg #[.bool ra, .slice p5 n5 cap5, .bool rc, .int .i64 rl, .int .i64 ru]), (fun v _ => v = .agg #[.bool a1, .slice p1 n1 cap1, .bool c1, .int .i64 l1, .int .i64 u1]), (fun v _ => v = .agg #[.bool a2, .slice p2 n2 cap2, .bool c2, .int .i64 l2, .int .i64 u2]), (fun v x => StV (ra, rL, rc, rl, ru) v x), (fun v _ => v = .bool true), (fun v _ => v = .bool false), (fun v _ => v = .bool false), (fun v _ => v = .agg #[.bool a1, .slice p1 n1 cap1, .bool c1, .int .i64 l1, .int .i64 u1]), (fun v _ => v = .bool true), (fun v _ => v = .bool false), (fun v _ => v = .bool false), (fun v _ => v = .bool false), (fun v _ => v = .agg #[.bool a2, .slice p2 n2 cap2, .bool c2, .int .i64 l2, .int .i64 u2]), (fun v _ => v = .bool false), (fun v _ => v = .bool true), (fun v _ => v = .bool true)].getD j (fun _ _ => True)) ?stable y5 hBd ?step (fun V => ⟨List.toArray ((Value.slice a len cap) :: (undef) :: (Value.bool false) :: (Value.pointer (some { block := x1.heap.size, off := 0 })) :: (Value.pointer (some { block := x1.heap.size + 1, off := 0 })) :: (Value.pointer (some { block := x5.heap.size, off := 0 })) :: (Value.slice a len cap) :: (Value.int IntKind.i64 ↑len) :: (Value.bool false) :: (Value.tuple #[Value.agg #[Value.bool a1, Value.slice p1 n1 cap1, Value.bool c1, Value.int IntKind.i64 l1, Value.int IntKind.i64 u1], Value.agg #[Value.bool a2, Value.slice p2 n2 cap2, Value.bool c2, Value.int IntKind.i64 l2, Value.int IntKind.i64 u2]]) :: (Value.slice a len cap) :: (Value.tuple #[Value.agg #[Value.bool a1, Value.slice p1 n1 cap1, Value.bool c1, Value.int IntKind.i64 l1, Value.int IntKind.i64 u1], Value.agg #[Value.bool a2, Value.slice p2 n2 cap2, Value.bool c2, Value.int IntKind.i64 l2, Value.int IntKind.i64 u2]]) :: (Value.agg #[Value.bool a1, Value.slice p1 n1 cap1, Value.bool c1, Value.int IntKind.i64 l1, Value.int IntKind.i64 u1]) :: (Value.agg #[Value.bool a2, Value.slice p2 n2 cap2, Value.bool c2, Value.int IntKind.i64 l2, Value.int IntKind.i64 u2]) :: (Value.agg #[Value.bool a1, Value.slice p1 n1 cap1, Value.bool c1, Value.int IntKind.i64 l1, Value.int IntKind.i64 u1]) :: (Value.agg #[Value.bool a2, Value.slice p2 n2 cap2, Value.bool c2, Value.int IntKind.i64 l2, Value.int IntKind.i64 u2]) :: (Value.agg #[Value.bool ra, Value.slice p5 n5 cap5, Value.bool rc, Value.int IntKind.i64 rl, Value.int IntKind.i64 ru]) :: (V 0) :: (V 1) :: (V 2) :: (V 3) :: (V 4) :: (V 5) :: (V 6) :: (V 7) :: (V 8) :: (V 9) :: (V 10) :: (V 11) :: (V 12) :: (V 13) :: (V 14) :: (V 15) :: (undef) :: (undef) :: (undef) :: (undef) :: (undef) :: (undef) :: (undef) :: (undef) :: (undef) :: (undef) :: (undef) :: (undef) :: (undef) :: (undef) :: (undef) :: (undef) :: (undef) :: (undef) :: (undef) :: (undef) :: (undef) :: (undef) :: (undef) :: []), []⟩) (fun V => by kernel_rfl) ?fin
        case stable =>
          intro i v x y ht hb
          rcases i with _ | i
          · exact ht
          rcases i with _ | i
          · exact ht
          rcases i with _ | i
          · exact ht
          rcases i with _ | i
          · exact StV.later ht hb
          rcases i with _ | i
          · exact ht
          rcases i with _ | i
          · exact ht
          rcases i with _ | i
          · exact ht
          rcases i with _ | i
          · exact ht
          rcases i with _ | i
          · exact ht
          rcases i with _ | i
          · exact ht
          rcases i with _ | i
          · exact ht
          rcases i with _ | i
          · exact ht
          rcases i with _ | i
          · exact ht
          rcases i with _ | i
          · exact ht
          rcases i with _ | i
          · exact ht
          rcases i with _ | i
          · exact ht
          exact trivial
        case step =>
          intro i o ho ρ y x hBx hdep hout
          rcases i with _ | i
          · obtain rfl := Option.some.inj ho
            have o5 : ρ (.tmp 5) = Value.pointer (some { block := x5.heap.size, off := 0 }) := hout (.tmp 5) rfl
            have ocn : ∀ v, ρ (.const v) = v := fun v => hout (.const v) rfl
            have ofn : ∀ f, ρ (.func f) = .func (.func f) #[] #[] := fun f => hout (.func f) rfl
            clear hdep hout
            refine .inl ⟨?_, ?_⟩
            · rfl
            obtain ⟨_, cc0, cc1, cc2, cc3, cc4, _⟩ := (P5.out.later hBx).box
            show GivesP _ _ _ (fun v _ => v = .agg #[.bool ra, .slice p5 n5 cap5, .bool rc, .int .i64 rl, .int .i64 ru]) _
            refine GivesP.val (.agg #[.bool ra, .slice p5 n5 cap5, .bool rc, .int .i64 rl, .int .i64 ru]) rfl ?_
            go_simp
          rcases i with _ | i
          · obtain rfl := Option.some.inj ho
            have o3 : ρ (.tmp 3) = Value.pointer (some { block := x1.heap.size, off := 0 }) := hout (.tmp 3) rfl
            have ocn : ∀ v, ρ (.const v) = v := fun v => hout (.const v) rfl
            have ofn : ∀ f, ρ (.func f) = .func (.func f) #[] #[] := fun f => hout (.func f) rfl
            clear hdep hout
            refine .inl ⟨?_, ?_⟩
            · rfl
            obtain ⟨_, cc0, cc1, cc2, cc3, cc4, _⟩ := (P1.out.later hBx).box
            show GivesP _ _ _ (fun v _ => v = .agg #[.bool a1, .slice p1 n1 cap1, .bool c1, .int .i64 l1, .int .i64 u1]) _
            refine GivesP.val (.agg #[.bool a1, .slice p1 n1 cap1, .bool c1, .int .i64 l1, .int .i64 u1]) rfl ?_
            go_simp
          rcases i with _ | i
          · obtain rfl := Option.some.inj ho
            have o4 : ρ (.tmp 4) = Value.pointer (some { block := x1.heap.size + 1, off := 0 }) := hout (.tmp 4) rfl
            have ocn : ∀ v, ρ (.const v) = v := fun v => hout (.const v) rfl
            have ofn : ∀ f, ρ (.func f) = .func (.func f) #[] #[] := fun f => hout (.func f) rfl
            clear hdep hout
            refine .inl ⟨?_, ?_⟩
            · rfl
            obtain ⟨_, cc0, cc1, cc2, cc3, cc4, _⟩ := (P2.out.later hBx).box
            show GivesP _ _ _ (fun v _ => v = .agg #[.bool a2, .slice p2 n2 cap2, .bool c2, .int .i64 l2, .int .i64 u2]) _
            refine GivesP.val (.agg #[.bool a2, .slice p2 n2 cap2, .bool c2, .int .i64 l2, .int .i64 u2]) rfl ?_
            go_simp
          rcases i with _ | i
          · obtain rfl := Option.some.inj ho
            have e1 : ρ (.tmp 18) = .agg #[.bool a1, .slice p1 n1 cap1, .bool c1, .int .i64 l1, .int .i64 u1] := (hdep ⟨1, .data⟩ (by simp) rfl 18 rfl).1
            have e2 : ρ (.tmp 19) = .agg #[.bool a2, .slice p2 n2 cap2, .bool c2, .int .i64 l2, .int .i64 u2] := (hdep ⟨2, .data⟩ (by simp) rfl 19 rfl).1
            have ocn : ∀ v, ρ (.const v) = v := fun v => hout (.const v) rfl
            have ofn : ∀ f, ρ (.func f) = .func (.func f) #[] #[] := fun f => hout (.func f) rfl
            clear hdep hout
            refine .inl ⟨?_, ?_⟩
            · rfl
            show GivesP _ _ _ (fun v x => StV (ra, rL, rc, rl, ru) v x) _
            refine GivesP.call ((stWide_spec x true true _ _ _ _ _ _ L1 _ _ _ _ _ L2 _ _ _ (P1.out.later hBx).row (P2.out.later hBx).row).mono fun e w9 h9 => stV_of h9 HR.out) ?_
            go_simp
          rcases i with _ | i
          · obtain rfl := Option.some.inj ho
            have e0 : ρ (.tmp 17) = .agg #[.bool ra, .slice p5 n5 cap5, .bool rc, .int .i64 rl, .int .i64 ru] := (hdep ⟨0, .data⟩ (by simp) rfl 17 rfl).1
            have t3 : StV (ra, rL, rc, rl, ru) (ρ (.tmp 20)) x := (hdep ⟨3, .data⟩ (by simp) rfl 20 rfl).1
            obtain ⟨q3, k3, B3, E3, e3, s3⟩ := t3
            have ocn : ∀ v, ρ (.const v) = v := fun v => hout (.const v) rfl
            have ofn : ∀ f, ρ (.func f) = .func (.func f) #[] #[] := fun f => hout (.func f) rfl
            clear hdep hout
            refine .inl ⟨?_, ?_⟩
            · rfl
            show GivesP _ _ _ (fun v _ => v = .bool true) _
            refine GivesP.call ((lgState_same x true true _ _ _ _ ra _ _ rL rc rl ru ((P5.out.later hBx).row) s3).mono fun e w9 h9 => ⟨_, h9.1, rfl, h9.2⟩) ?_
            go_simp
          rcases i with _ | i
          · obtain rfl := Option.some.inj ho
            have e4 : ρ (.tmp 21) = .bool true := (hdep ⟨4, .data⟩ (by simp) rfl 21 rfl).1
            have ocn : ∀ v, ρ (.const v) = v := fun v => hout (.const v) rfl
            have ofn : ∀ f, ρ (.func f) = .func (.func f) #[] #[] := fun f => hout (.func f) rfl
            clear hdep hout
            refine .inl ⟨?_, ?_⟩
            · rfl
            show GivesP _ _ _ (fun v _ => v = .bool false) _
            refine GivesP.val (.bool false) rfl ?_
            go_simp
          rcases i with _ | i
          · obtain rfl := Option.some.inj ho
            have e5 : ρ (.tmp 22) = .bool false := (hdep ⟨5, .data⟩ (by simp) rfl 22 rfl).1
            have ocn : ∀ v, ρ (.const v) = v := fun v => hout (.const v) rfl
            have ofn : ∀ f, ρ (.func f) = .func (.func f) #[] #[] := fun f => hout (.func f) rfl
            clear hdep hout
            refine .inl ⟨?_, ?_⟩
            · rfl
            show GivesP _ _ _ (fun v _ => v = .bool false) _
            refine GivesP.val (.bool false) rfl ?_
            go_simp
          rcases i with _ | i
          · obtain rfl := Option.some.inj ho
            have o3 : ρ (.tmp 3) = Value.pointer (some { block := x1.heap.size, off := 0 }) := hout (.tmp 3) rfl
            have eg : ρ (.tmp 23) = .bool false := (hdep ⟨6, .guard⟩ (by simp) rfl 23 rfl).1
            have yg : y 6 = some false := (hdep ⟨6, .guard⟩ (by simp) rfl 23 rfl).2.trans (by rw [eg]; rfl)
            have ocn : ∀ v, ρ (.const v) = v := fun v => hout (.const v) rfl
            have ofn : ∀ f, ρ (.func f) = .func (.func f) #[] #[] := fun f => hout (.func f) rfl
            clear hdep hout
            refine .inl ⟨?_, ?_⟩
            · show (y 6 == some false) = true
              rw [yg]; rfl
            obtain ⟨_, cc0, cc1, cc2, cc3, cc4, _⟩ := (P1.out.later hBx).box
            show GivesP _ _ _ (fun v _ => v = .agg #[.bool a1, .slice p1 n1 cap1, .bool c1, .int .i64 l1, .int .i64 u1]) _
            refine GivesP.val (.agg #[.bool a1, .slice p1 n1 cap1, .bool c1, .int .i64 l1, .int .i64 u1]) rfl ?_
            go_simp
          rcases i with _ | i
          · obtain rfl := Option.some.inj ho
            have e7 : ρ (.tmp 24) = .agg #[.bool a1, .slice p1 n1 cap1, .bool c1, .int .i64 l1, .int .i64 u1] := (hdep ⟨7, .data⟩ (by simp) rfl 24 rfl).1
            have eg : ρ (.tmp 23) = .bool false := (hdep ⟨6, .guard⟩ (by simp) rfl 23 rfl).1
            have yg : y 6 = some false := (hdep ⟨6, .guard⟩ (by simp) rfl 23 rfl).2.trans (by rw [eg]; rfl)
            have ocn : ∀ v, ρ (.const v) = v := fun v => hout (.const v) rfl
            have ofn : ∀ f, ρ (.func f) = .func (.func f) #[] #[] := fun f => hout (.func f) rfl
            clear hdep hout
            refine .inl ⟨?_, ?_⟩
            · show (y 6 == some false) = true
              rw [yg]; rfl
            show GivesP _ _ _ (fun v _ => v = .bool true) _
            refine GivesP.call ((stOk_spec x true _ _ _ _ L1 _ _ _ (P1.out.later hBx).row).mono fun e w9 h9 => ⟨_, h9.1, by rw [HAo.out], h9.2⟩) ?_
            go_simp
          rcases i with _ | i
          · obtain rfl := Option.some.inj ho
            have e8 : ρ (.tmp 25) = .bool true := (hdep ⟨8, .data⟩ (by simp) rfl 25 rfl).1
            have eg : ρ (.tmp 23) = .bool false := (hdep ⟨6, .guard⟩ (by simp) rfl 23 rfl).1
            have yg : y 6 = some false := (hdep ⟨6, .guard⟩ (by simp) rfl 23 rfl).2.trans (by rw [eg]; rfl)
            have ocn : ∀ v, ρ (.const v) = v := fun v => hout (.const v) rfl
            have ofn : ∀ f, ρ (.func f) = .func (.func f) #[] #[] := fun f => hout (.func f) rfl
            clear hdep hout
            refine .inl ⟨?_, ?_⟩
            · show (y 6 == some false) = true
              rw [yg]; rfl
            show GivesP _ _ _ (fun v _ => v = .bool false) _
            refine GivesP.val (.bool false) rfl ?_
            go_simp
          rcases i with _ | i
          · obtain rfl := Option.some.inj ho
            have e6 : ρ (.tmp 23) = .bool false := (hdep ⟨6, .data⟩ (by simp) rfl 23 rfl).1
            have e9 : ρ (.tmp 26) = .bool false := (hdep ⟨9, .data⟩ (by simp) rfl 26 rfl).1
            have ocn : ∀ v, ρ (.const v) = v := fun v => hout (.const v) rfl
            have ofn : ∀ f, ρ (.func f) = .func (.func f) #[] #[] := fun f => hout (.func f) rfl
            clear hdep hout
            refine .inl ⟨?_, ?_⟩
            · rfl
            show GivesP _ _ _ (fun v _ => v = .bool false) _
            refine GivesP.val (.bool false) rfl ?_
            go_simp
          rcases i with _ | i
          · obtain rfl := Option.some.inj ho
            have e10 : ρ (.tmp 27) = .bool false := (hdep ⟨10, .data⟩ (by simp) rfl 27 rfl).1
            have ocn : ∀ v, ρ (.const v) = v := fun v => hout (.const v) rfl
            have ofn : ∀ f, ρ (.func f) = .func (.func f) #[] #[] := fun f => hout (.func f) rfl
            clear hdep hout
            refine .inl ⟨?_, ?_⟩
            · rfl
            show GivesP _ _ _ (fun v _ => v = .bool false) _
            refine GivesP.val (.bool false) rfl ?_
            go_simp
          rcases i with _ | i
          · obtain rfl := Option.some.inj ho
            have o4 : ρ (.tmp 4) = Value.pointer (some { block := x1.heap.size + 1, off := 0 }) := hout (.tmp 4) rfl
            have eg : ρ (.tmp 28) = .bool false := (hdep ⟨11, .guard⟩ (by simp) rfl 28 rfl).1
            have yg : y 11 = some false := (hdep ⟨11, .guard⟩ (by simp) rfl 28 rfl).2.trans (by rw [eg]; rfl)
            have ocn : ∀ v, ρ (.const v) = v := fun v => hout (.const v) rfl
            have ofn : ∀ f, ρ (.func f) = .func (.func f) #[] #[] := fun f => hout (.func f) rfl
            clear hdep hout
            refine .inl ⟨?_, ?_⟩
            · show (y 11 == some false) = true
              rw [yg]; rfl
            obtain ⟨_, cc0, cc1, cc2, cc3, cc4, _⟩ := (P2.out.later hBx).box
            show GivesP _ _ _ (fun v _ => v = .agg #[.bool a2, .slice p2 n2 cap2, .bool c2, .int .i64 l2, .int .i64 u2]) _
            refine GivesP.val (.agg #[.bool a2, .slice p2 n2 cap2, .bool c2, .int .i64 l2, .int .i64 u2]) rfl ?_
            go_simp
          rcases i with _ | i
          · obtain rfl := Option.some.inj ho
            have e12 : ρ (.tmp 29) = .agg #[.bool a2, .slice p2 n2 cap2, .bool c2, .int .i64 l2, .int .i64 u2] := (hdep ⟨12, .data⟩ (by simp) rfl 29 rfl).1
            have eg : ρ (.tmp 28) = .bool false := (hdep ⟨11, .guard⟩ (by simp) rfl 28 rfl).1
            have yg : y 11 = some false := (hdep ⟨11, .guard⟩ (by simp) rfl 28 rfl).2.trans (by rw [eg]; rfl)
            have ocn : ∀ v, ρ (.const v) = v := fun v => hout (.const v) rfl
            have ofn : ∀ f, ρ (.func f) = .func (.func f) #[] #[] := fun f => hout (.func f) rfl
            clear hdep hout
            refine .inl ⟨?_, ?_⟩
            · show (y 11 == some false) = true
              rw [yg]; rfl
            show GivesP _ _ _ (fun v _ => v = .bool false) _
            refine GivesP.call ((stOk_spec x true _ _ _ _ L2 _ _ _ (P2.out.later hBx).row).mono fun e w9 h9 => ⟨_, h9.1, by rw [HBo.out], h9.2⟩) ?_
            go_simp
          rcases i with _ | i
          · obtain rfl := Option.some.inj ho
            have e13 : ρ (.tmp 30) = .bool false := (hdep ⟨13, .data⟩ (by simp) rfl 30 rfl).1
            have eg : ρ (.tmp 28) = .bool false := (hdep ⟨11, .guard⟩ (by simp) rfl 28 rfl).1
            have yg : y 11 = some false := (hdep ⟨11, .guard⟩ (by simp) rfl 28 rfl).2.trans (by rw [eg]; rfl)
            have ocn : ∀ v, ρ (.const v) = v := fun v => hout (.const v) rfl
            have ofn : ∀ f, ρ (.func f) = .func (.func f) #[] #[] := fun f => hout (.func f) rfl
            clear hdep hout
            refine .inl ⟨?_, ?_⟩
            · show (y 11 == some false) = true
              rw [yg]; rfl
            show GivesP _ _ _ (fun v _ => v = .bool true) _
            refine GivesP.val (.bool true) rfl ?_
            go_simp
          rcases i with _ | i
          · obtain rfl := Option.some.inj ho
            have e11 : ρ (.tmp 28) = .bool false := (hdep ⟨11, .data⟩ (by simp) rfl 28 rfl).1
            have e14 : ρ (.tmp 31) = .bool true := (hdep ⟨14, .data⟩ (by simp) rfl 31 rfl).1
            have ocn : ∀ v, ρ (.const v) = v := fun v => hout (.const v) rfl
            have ofn : ∀ f, ρ (.func f) = .func (.func f) #[] #[] := fun f => hout (.func f) rfl
            clear hdep hout
            refine .inl ⟨?_, ?_⟩
            · rfl
            show GivesP _ _ _ (fun v _ => v = .bool true) _
            refine GivesP.val (.bool true) rfl ?_
            go_simp
          cases ho
        case fin =>
          intro V x hBx hV
          have ev : V 15 = .bool true := hV 15 (by simp)
          clear hV
          go_wp2_with fail
          go_meet
          exact ⟨ev, HB.out.trans (hBx.mono HB.out.size), P1.out.later hBx, P2.out.later hBx, P5.out.later hBx⟩
      case rest =>
      rename World => z3
      clear HB P1 P2 P5
      obtain ⟨rfl, HB, P1, P2, P5⟩ := hcut
      go_wp2_with fail
      go_cut [2] (fun s y => s = .bool true ∧ Hid (Below w.heap.size w y) ∧ Hid (Pr y w.heap.size x1.heap.size x1.heap.size a1 p1 n1 cap1 c1 l1 u1 L1) ∧ Hid (Pr y w.heap.size x1.heap.size (x1.heap.size + 1) a2 p2 n2 cap2 c2 l2 u2 L2) ∧ Hid (Pr y y1.heap.size x5.heap.size x5.heap.size ra p5 n5 cap5 rc rl ru rL))
      case first =>
        have hBd : Below z3.heap.size z3 z3.drew := (Below.refl _ _).drew
        refine wp_region_preds (by kernel_rfl) (by kernel_rfl) (by kernel_rfl) (by kernel_rfl) (fun j => [(fun v _ => v = .agg #[.bool ra, .slice p5 n5 cap5, .bool rc, .int .i64 rl, .int .i64 ru]), (fun v _ => v = .agg #[.bool a1, .slice p1 n1 cap1, .bool c1, .int .i64 l1, .int .i64 u1]), (fun v _ => v = .agg #[.bool a2, .slice p2 n2 cap2, .bool c2, .int .i64 l2, .int .i64 u2]), (fun v x => StV (ra, rL, rc, rl, ru) v x), (fun v _ => v = .bool true), (fun v _ => v = .bool true)].getD j (fun _ _ => True)) ?stable z3 hBd ?step (fun V => ⟨List.toArray ((Value.slice a len cap) :: (undef) :: (V 5) :: (Value.pointer (some { block := x1.heap.size, off := 0 })) :: (Value.pointer (some { block := x1.heap.size + 1, off := 0 })) :: (Value.pointer (some { block := x5.heap.size, off := 0 })) :: (u6) :: (u7) :: (u8) :: (u9) :: (u10) :: (u11) :: (u12) :: (u13) :: (u14) :: (u15) :: (u16) :: (u17) :: (u18) :: (u19) :: (u20) :: (u21) :: (u22) :: (u23) :: (u24) :: (u25) :: (u26) :: (u27) :: (u28) :: (u29) :: (u30) :: (u31) :: (Value.bool true) :: (V 0) :: (V 1) :: (V 2) :: (V 3) :: (V 4) :: (u38) :: (u39) :: (u40) :: (u41) :: (u42) :: (u43) :: (u44) :: (u45) :: (u46) :: (u47) :: (u48) :: (u49) :: (u50) :: (u51) :: (u52) :: (u53) :: (u54) :: (u55) :: []), []⟩) (fun V => by kernel_rfl) ?fin
        case stable =>
          intro i v x y ht hb
          rcases i with _ | i
          · exact ht
          rcases i with _ | i
          · exact ht
          rcases i with _ | i
          · exact ht
          rcases i with _ | i
          · exact StV.later ht hb
          rcases i with _ | i
          · exact ht
          rcases i with _ | i
          · exact ht
          exact trivial
        case step =>
          intro i o ho ρ y x hBx hdep hout
          rcases i with _ | i
          · obtain rfl := Option.some.inj ho
            have o5 : ρ (.tmp 5) = Value.pointer (some { block := x5.heap.size, off := 0 }) := hout (.tmp 5) rfl
            have ocn : ∀ v, ρ (.const v) = v := fun v => hout (.const v) rfl
            have ofn : ∀ f, ρ (.func f) = .func (.func f) #[] #[] := fun f => hout (.func f) rfl
            clear hdep hout
            refine .inl ⟨?_, ?_⟩
            · rfl
            obtain ⟨_, cc0, cc1, cc2, cc3, cc4, _⟩ := (P5.out.later hBx).box
            show GivesP _ _ _ (fun v _ => v = .agg #[.bool ra, .slice p5 n5 cap5, .bool rc, .int .i64 rl, .int .i64 ru]) _
            refine GivesP.val (.agg #[.bool ra, .slice p5 n5 cap5, .bool rc, .int .i64 rl, .int .i64 ru]) rfl ?_
            go_simp
          rcases i with _ | i
          · obtain rfl := Option.some.inj ho
            have o3 : ρ (.tmp 3) = Value.pointer (some { block := x1.heap.size, off := 0 }) := hout (.tmp 3) rfl
            have ocn : ∀ v, ρ (.const v) = v := fun v => hout (.const v) rfl
            have ofn : ∀ f, ρ (.func f) = .func (.func f) #[] #[] := fun f => hout (.func f) rfl
            clear hdep hout
            refine .inl ⟨?_, ?_⟩
            · rfl
            obtain ⟨_, cc0, cc1, cc2, cc3, cc4, _⟩ := (P1.out.later hBx).box
            show GivesP _ _ _ (fun v _ => v = .agg #[.bool a1, .slice p1 n1 cap1, .bool c1, .int .i64 l1, .int .i64 u1]) _
            refine GivesP.val (.agg #[.bool a1, .slice p1 n1 cap1, .bool c1, .int .i64 l1, .int .i64 u1]) rfl ?_
            go_simp
          rcases i with _ | i
          · obtain rfl := Option.some.inj ho
            have o4 : ρ (.tmp 4) = Value.pointer (some { block := x1.heap.size + 1, off := 0 }) := hout (.tmp 4) rfl
            have ocn : ∀ v, ρ (.const v) = v := fun v => hout (.const v) rfl
            have ofn : ∀ f, ρ (.func f) = .func (.func f) #[] #[] := fun f => hout (.func f) rfl
            clear hdep hout
            refine .inl ⟨?_, ?_⟩
            · rfl
            obtain ⟨_, cc0, cc1, cc2, cc3, cc4, _⟩ := (P2.out.later hBx).box
            show GivesP _ _ _ (fun v _ => v = .agg #[.bool a2, .slice p2 n2 cap2, .bool c2, .int .i64 l2, .int .i64 u2]) _
            refine GivesP.val (.agg #[.bool a2, .slice p2 n2 cap2, .bool c2, .int .i64 l2, .int .i64 u2]) rfl ?_
            go_simp
          rcases i with _ | i
          · obtain rfl := Option.some.inj ho
            have e1 : ρ (.tmp 34) = .agg #[.bool a1, .slice p1 n1 cap1, .bool c1, .int .i64 l1, .int .i64 u1] := (hdep ⟨1, .data⟩ (by simp) rfl 34 rfl).1
            have e2 : ρ (.tmp 35) = .agg #[.bool a2, .slice p2 n2 cap2, .bool c2, .int .i64 l2, .int .i64 u2] := (hdep ⟨2, .data⟩ (by simp) rfl 35 rfl).1
            have ocn : ∀ v, ρ (.const v) = v := fun v => hout (.const v) rfl
            have ofn : ∀ f, ρ (.func f) = .func (.func f) #[] #[] := fun f => hout (.func f) rfl
            clear hdep hout
            refine .inl ⟨?_, ?_⟩
            · rfl
            show GivesP _ _ _ (fun v x => StV (ra, rL, rc, rl, ru) v x) _
            refine GivesP.call ((stWide_spec x true true _ _ _ _ _ _ L1 _ _ _ _ _ L2 _ _ _ (P1.out.later hBx).row (P2.out.later hBx).row).mono fun e w9 h9 => stV_of h9 HR.out) ?_
            go_simp
          rcases i with _ | i
          · obtain rfl := Option.some.inj ho
            have e0 : ρ (.tmp 33) = .agg #[.bool ra, .slice p5 n5 cap5, .bool rc, .int .i64 rl, .int .i64 ru] := (hdep ⟨0, .data⟩ (by simp) rfl 33 rfl).1
            have t3 : StV (ra, rL, rc, rl, ru) (ρ (.tmp 36)) x := (hdep ⟨3, .data⟩ (by simp) rfl 36 rfl).1
            obtain ⟨q3, k3, B3, E3, e3, s3⟩ := t3
            have ocn : ∀ v, ρ (.const v) = v := fun v => hout (.const v) rfl
            have ofn : ∀ f, ρ (.func f) = .func (.func f) #[] #[] := fun f => hout (.func f) rfl
            clear hdep hout
            refine .inl ⟨?_, ?_⟩
            · rfl
            show GivesP _ _ _ (fun v _ => v = .bool true) _
            refine GivesP.call ((lgState_same x true true _ _ _ _ ra _ _ rL rc rl ru ((P5.out.later hBx).row) s3).mono fun e w9 h9 => ⟨_, h9.1, rfl, h9.2⟩) ?_
            go_simp
          rcases i with _ | i
          · obtain rfl := Option.some.inj ho
            have e4 : ρ (.tmp 37) = .bool true := (hdep ⟨4, .data⟩ (by simp) rfl 37 rfl).1
            have ocn : ∀ v, ρ (.const v) = v := fun v => hout (.const v) rfl
            have ofn : ∀ f, ρ (.func f) = .func (.func f) #[] #[] := fun f => hout (.func f) rfl
            clear hdep hout
            refine .inl ⟨?_, ?_⟩
            · rfl
            show GivesP _ _ _ (fun v _ => v = .bool true) _
            refine GivesP.val (.bool true) rfl ?_
            go_simp
          cases ho
        case fin =>
          intro V x hBx hV
          have ev : V 5 = .bool true := hV 5 (by simp)
          clear hV
          go_wp2_with fail
          go_meet
          exact ⟨ev, HB.out.trans (hBx.mono HB.out.size), P1.out.later hBx, P2.out.later hBx, P5.out.later hBx⟩
      case rest =>
      rename World => z4
      clear HB P1 P2 P5
      obtain ⟨rfl, HB, P1, P2, P5⟩ := hcut
      go_wp2_with fail
      go_ret
      exact ⟨rfl, HB.out⟩
    · skip
      have HBo : Hid (stOk a2 L2 (c2, l2, u2) = true) := hob
      clear hob
      go_cut [32] (fun s y => s = .bool false ∧ Hid (Below w.heap.size w y) ∧ Hid (Pr y w.heap.size x1.heap.size x1.heap.size a1 p1 n1 cap1 c1 l1 u1 L1) ∧ Hid (Pr y w.heap.size x1.heap.size (x1.heap.size + 1) a2 p2 n2 cap2 c2 l2 u2 L2) ∧ Hid (Pr y y1.heap.size x5.heap.size x5.heap.size ra p5 n5 cap5 rc rl ru rL))
      case first =>
        have hBd : Below y5.heap.size y5 y5.drew := (Below.refl _ _).drew
        refine wp_region_preds (by kernel_rfl) (by kernel_rfl) (by kernel_rfl) (by kernel_rfl) (fun j => [(fun v _ => v = .agg #[.bool ra, .slice p5 n5 cap5, .bool rc, .int .i64 rl, .int .i64 ru]), (fun v _ => v = .agg #[.bool a1, .slice p1 n1 cap1, .bool c1, .int .i64 l1, .int .i64 u1]), (fun v _ => v = .agg #[.bool a2, .slice p2 n2 cap2, .bool c2, .int .i64 l2, .int .i64 u2]), (fun v x => StV (ra, rL, rc, rl, ru) v x), (fun v _ => v = .bool true), (fun v _ => v = .bool false), (fun v _ => v = .bool false), (fun v _ => v = .agg #[.bool a1, .slice p1 n1 cap1, .bool c1, .int .i64 l1, .int .i64 u1]), (fun v _ => v = .bool true), (fun v _ => v = .bool false), (fun v _ => v = .bool false), (fun v _ => v = .bool false), (fun v _ => v = .agg #[.bool a2, .slice p2 n2 cap2, .bool c2, .int .i64 l2, .int .i64 u2]), (fun v _ => v = .bool true), (fun v _ => v = .bool false), (fun v _ => v = .bool false)].getD j (fun _ _ => True)) ?stable y5 hBd ?step (fun V => ⟨List.toArray ((Value.slice a len cap) :: (undef) :: (Value.bool false) :: (Value.pointer (some { block := x1.heap.size, off := 0 })) :: (Value.pointer (some { block := x1.heap.size + 1, off := 0 })) :: (Value.pointer (some { block := x5.heap.size, off := 0 })) :: (Value.slice a len cap) :: (Value.int IntKind.i64 ↑len) :: (Value.bool false) :: (Value.tuple #[Value.agg #[Value.bool a1, Value.slice p1 n1 cap1, Value.bool c1, Value.int IntKind.i64 l1, Value.int IntKind.i64 u1], Value.agg #[Value.bool a2, Value.slice p2 n2 cap2, Value.bool c2, Value.int IntKind.i64 l2, Value.int IntKind.i64 u2]]) :: (Value.slice a len cap) :: (Value.tuple #[Value.agg #[Value.bool a1, Value.slice p1 n1 cap1, Value.bool c1, Value.int IntKind.i64 l1, Value.int IntKind.i64 u1], Value.agg #[Value.bool a2, Value.slice p2 n2 cap2, Value.bool c2, Value.int IntKind.i64 l2, Value.int IntKind.i64 u2]]) :: (Value.agg #[Value.bool a1, Value.slice p1 n1 cap1, Value.bool c1, Value.int IntKind.i64 l1, Value.int IntKind.i64 u1]) :: (Value.agg #[Value.bool a2, Value.slice p2 n2 cap2, Value.bool c2, Value.int IntKind.i64 l2, Value.int IntKind.i64 u2]) :: (Value.agg #[Value.bool a1, Value.slice p1 n1 cap1, Value.bool c1, Value.int IntKind.i64 l1, Value.int IntKind.i64 u1]) :: (Value.agg #[Value.bool a2, Value.slice p2 n2 cap2, Value.bool c2, Value.int IntKind.i64 l2, Value.int IntKind.i64 u2]) :: (Value.agg #[Value.bool ra, Value.slice p5 n5 cap5, Value.bool rc, Value.int IntKind.i64 rl, Value.int IntKind.i64 ru]) :: (V 0) :: (V 1) :: (V 2) :: (V 3) :: (V 4) :: (V 5) :: (V 6) :: (V 7) :: (V 8) :: (V 9) :: (V 10) :: (V 11) :: (V 12) :: (V 13) :: (V 14) :: (V 15) :: (undef) :: (undef) :: (undef) :: (undef) :: (undef) :: (undef) :: (undef) :: (undef) :: (undef) :: (undef) :: (undef) :: (undef) :: (undef) :: (undef) :: (undef) :: (undef) :: (undef) :: (undef) :: (undef) :: (undef) :: (undef) :: (undef) :: (undef) :: []), []⟩) (fun V => by kernel_rfl) ?fin
        case stable =>
          intro i v x y ht hb
          rcases i with _ | i
          · exact ht
          rcases i with _ | i
          · exact ht
          rcases i with _ | i
          · exact ht
          rcases i with _ | i
          · exact StV.later ht hb
          rcases i with _ | i
          · exact ht
          rcases i with _ | i
          · exact ht
          rcases i with _ | i
          · exact ht
          rcases i with _ | i
          · exact ht
          rcases i with _ | i
          · exact ht
          rcases i with _ | i
          · exact ht
          rcases i with _ | i
          · exact ht
          rcases i with _ | i
          · exact ht
          rcases i with _ | i
          · exact ht
          rcases i with _ | i
          · exact ht
          rcases i with _ | i
          · exact ht
          rcases i with _ | i
          · exact ht
          exact trivial
        case step =>
          intro i o ho ρ y x hBx hdep hout
          rcases i with _ | i
          · obtain rfl := Option.some.inj ho
            have o5 : ρ (.tmp 5) = Value.pointer (some { block := x5.heap.size, off := 0 }) := hout (.tmp 5) rfl
            have ocn : ∀ v, ρ (.const v) = v := fun v => hout (.const v) rfl
            have ofn : ∀ f, ρ (.func f) = .func (.func f) #[] #[] := fun f => hout (.func f) rfl
            clear hdep hout
            refine .inl ⟨?_, ?_⟩
            · rfl
            obtain ⟨_, cc0, cc1, cc2, cc3, cc4, _⟩ := (P5.out.later hBx).box
            show GivesP _ _ _ (fun v _ => v = .agg #[.bool ra, .slice p5 n5 cap5, .bool rc, .int .i64 rl, .int .i64 ru]) _
            refine GivesP.val (.agg #[.bool ra, .slice p5 n5 cap5, .bool rc, .int .i64 rl, .int .i64 ru]) rfl ?_
            go_simp
          rcases i with _ | i
          · obtain rfl := Option.some.inj ho
            have o3 : ρ (.tmp 3) = Value.pointer (some { block := x1.heap.size, off := 0 }) := hout (.tmp 3) rfl
            have ocn : ∀ v, ρ (.const v) = v := fun v => hout (.const v) rfl
            have ofn : ∀ f, ρ (.func f) = .func (.func f) #[] #[] := fun f => hout (.func f) rfl
            clear hdep hout
            refine .inl ⟨?_, ?_⟩
            · rfl
            obtain ⟨_, cc0, cc1, cc2, cc3, cc4, _⟩ := (P1.out.later hBx).box
            show GivesP _ _ _ (fun v _ => v = .agg #[.bool a1, .slice p1 n1 cap1, .bool c1, .int .i64 l1, .int .i64 u1]) _
            refine GivesP.val (.agg #[.bool a1, .slice p1 n1 cap1, .bool c1, .int .i64 l1, .int .i64 u1]) rfl ?_
            go_simp
          rcases i with _ | i
          · obtain rfl := Option.some.inj ho
            have o4 : ρ (.tmp 4) = Value.pointer (some { block := x1.heap.size + 1, off := 0 }) := hout (.tmp 4) rfl
            have ocn : ∀ v, ρ (.const v) = v := fun v => hout (.const v) rfl
            have ofn : ∀ f, ρ (.func f) = .func (.func f) #[] #[] := fun f => hout (.func f) rfl
            clear hdep hout
            refine .inl ⟨?_, ?_⟩
            · rfl
            obtain ⟨_, cc0, cc1, cc2, cc3, cc4, _⟩ := (P2.out.later hBx).box
            show GivesP _ _ _ (fun v _ => v = .agg #[.bool a2, .slice p2 n2 cap2, .bool c2, .int .i64 l2, .int .i64 u2]) _
            refine GivesP.val (.agg #[.bool a2, .slice p2 n2 cap2, .bool c2, .int .i64 l2, .int .i64 u2]) rfl ?_
            go_simp
          rcases i with _ | i
          · obtain rfl := Option.some.inj ho
            have e1 : ρ (.tmp 18) = .agg #[.bool a1, .slice p1 n1 cap1, .bool c1, .int .i64 l1, .int .i64 u1] := (hdep ⟨1, .data⟩ (by simp) rfl 18 rfl).1
            have e2 : ρ (.tmp 19) = .agg #[.bool a2, .slice p2 n2 cap2, .bool c2, .int .i64 l2, .int .i64 u2] := (hdep ⟨2, .data⟩ (by simp) rfl 19 rfl).1
            have ocn : ∀ v, ρ (.const v) = v := fun v => hout (.const v) rfl
            have ofn : ∀ f, ρ (.func f) = .func (.func f) #[] #[] := fun f => hout (.func f) rfl
            clear hdep hout
            refine .inl ⟨?_, ?_⟩
            · rfl
            show GivesP _ _ _ (fun v x => StV (ra, rL, rc, rl, ru) v x) _
            refine GivesP.call ((stWide_spec x true true _ _ _ _ _ _ L1 _ _ _ _ _ L2 _ _ _ (P1.out.later hBx).row (P2.out.later hBx).row).mono fun e w9 h9 => stV_of h9 HR.out) ?_
            go_simp
          rcases i with _ | i
          · obtain rfl := Option.some.inj ho
            have e0 : ρ (.tmp 17) = .agg #[.bool ra, .slice p5 n5 cap5, .bool rc, .int .i64 rl, .int .i64 ru] := (hdep ⟨0, .data⟩ (by simp) rfl 17 rfl).1
            have t3 : StV (ra, rL, rc, rl, ru) (ρ (.tmp 20)) x := (hdep ⟨3, .data⟩ (by simp) rfl 20 rfl).1
            obtain ⟨q3, k3, B3, E3, e3, s3⟩ := t3
            have ocn : ∀ v, ρ (.const v) = v := fun v => hout (.const v) rfl
            have ofn : ∀ f, ρ (.func f) = .func (.func f) #[] #[] := fun f => hout (.func f) rfl
            clear hdep hout
            refine .inl ⟨?_, ?_⟩
            · rfl
            show GivesP _ _ _ (fun v _ => v = .bool true) _
            refine GivesP.call ((lgState_same x true true _ _ _ _ ra _ _ rL rc rl ru ((P5.out.later hBx).row) s3).mono fun e w9 h9 => ⟨_, h9.1, rfl, h9.2⟩) ?_
            go_simp
          rcases i with _ | i
          · obtain rfl := Option.some.inj ho
            have e4 : ρ (.tmp 21) = .bool true := (hdep ⟨4, .data⟩ (by simp) rfl 21 rfl).1
            have ocn : ∀ v, ρ (.const v) = v := fun v => hout (.const v) rfl
            have ofn : ∀ f, ρ (.func f) = .func (.func f) #[] #[] := fun f => hout (.func f) rfl
            clear hdep hout
            refine .inl ⟨?_, ?_⟩
            · rfl
            show GivesP _ _ _ (fun v _ => v = .bool false) _
            refine GivesP.val (.bool false) rfl ?_
            go_simp
          rcases i with _ | i
          · obtain rfl := Option.some.inj ho
            have e5 : ρ (.tmp 22) = .bool false := (hdep ⟨5, .data⟩ (by simp) rfl 22 rfl).1
            have ocn : ∀ v, ρ (.const v) = v := fun v => hout (.const v) rfl
            have ofn : ∀ f, ρ (.func f) = .func (.func f) #[] #[] := fun f => hout (.func f) rfl
            clear hdep hout
            refine .inl ⟨?_, ?_⟩
            · rfl
            show GivesP _ _ _ (fun v _ => v = .bool false) _
            refine GivesP.val (.bool false) rfl ?_
            go_simp
          rcases i with _ | i
          · obtain rfl := Option.some.inj ho
            have o3 : ρ (.tmp 3) = Value.pointer (some { block := x1.heap.size, off := 0 }) := hout (.tmp 3) rfl
            have eg : ρ (.tmp 23) = .bool false := (hdep ⟨6, .guard⟩ (by simp) rfl 23 rfl).1
            have yg : y 6 = some false := (hdep ⟨6, .guard⟩ (by simp) rfl 23 rfl).2.trans (by rw [eg]; rfl)
            have ocn : ∀ v, ρ (.const v) = v := fun v => hout (.const v) rfl
            have ofn : ∀ f, ρ (.func f) = .func (.func f) #[] #[] := fun f => hout (.func f) rfl
            clear hdep hout
            refine .inl ⟨?_, ?_⟩
            · show (y 6 == some false) = true
              rw [yg]; rfl
            obtain ⟨_, cc0, cc1, cc2, cc3, cc4, _⟩ := (P1.out.later hBx).box
            show GivesP _ _ _ (fun v _ => v = .agg #[.bool a1, .slice p1 n1 cap1, .bool c1, .int .i64 l1, .int .i64 u1]) _
            refine GivesP.val (.agg #[.bool a1, .slice p1 n1 cap1, .bool c1, .int .i64 l1, .int .i64 u1]) rfl ?_
            go_simp
          rcases i with _ | i
          · obtain rfl := Option.some.inj ho
            have e7 : ρ (.tmp 24) = .agg #[.bool a1, .slice p1 n1 cap1, .bool c1, .int .i64 l1, .int .i64 u1] := (hdep ⟨7, .data⟩ (by simp) rfl 24 rfl).1
            have eg : ρ (.tmp 23) = .bool false := (hdep ⟨6, .guard⟩ (by simp) rfl 23 rfl).1
            have yg : y 6 = some false := (hdep ⟨6, .guard⟩ (by simp) rfl 23 rfl).2.trans (by rw [eg]; rfl)
            have ocn : ∀ v, ρ (.const v) = v := fun v => hout (.const v) rfl
            have ofn : ∀ f, ρ (.func f) = .func (.func f) #[] #[] := fun f => hout (.func f) rfl
            clear hdep hout
            refine .inl ⟨?_, ?_⟩
            · show (y 6 == some false) = true
              rw [yg]; rfl
            show GivesP _ _ _ (fun v _ => v = .bool true) _
            refine GivesP.call ((stOk_spec x true _ _ _ _ L1 _ _ _ (P1.out.later hBx).row).mono fun e w9 h9 => ⟨_, h9.1, by rw [HAo.out], h9.2⟩) ?_
            go_simp
          rcases i with _ | i
          · obtain rfl := Option.some.inj ho
            have e8 : ρ (.tmp 25) = .bool true := (hdep ⟨8, .data⟩ (by simp) rfl 25 rfl).1
            have eg : ρ (.tmp 23) = .bool false := (hdep ⟨6, .guard⟩ (by simp) rfl 23 rfl).1
            have yg : y 6 = some false := (hdep ⟨6, .guard⟩ (by simp) rfl 23 rfl).2.trans (by rw [eg]; rfl)
            have ocn : ∀ v, ρ (.const v) = v := fun v => hout (.const v) rfl
            have ofn : ∀ f, ρ (.func f) = .func (.func f) #[] #[] := fun f => hout (.func f) rfl
            clear hdep hout
            refine .inl ⟨?_, ?_⟩
            · show (y 6 == some false) = true
              rw [yg]; rfl
            show GivesP _ _ _ (fun v _ => v = .bool false) _
            refine GivesP.val (.bool false) rfl ?_
            go_simp
          rcases i with _ | i
          · obtain rfl := Option.some.inj ho
            have e6 : ρ (.tmp 23) = .bool false := (hdep ⟨6, .data⟩ (by simp) rfl 23 rfl).1
            have e9 : ρ (.tmp 26) = .bool false := (hdep ⟨9, .data⟩ (by simp) rfl 26 rfl).1
            have ocn : ∀ v, ρ (.const v) = v := fun v => hout (.const v) rfl
            have ofn : ∀ f, ρ (.func f) = .func (.func f) #[] #[] := fun f => hout (.func f) rfl
            clear hdep hout
            refine .inl ⟨?_, ?_⟩
            · rfl
            show GivesP _ _ _ (fun v _ => v = .bool false) _
            refine GivesP.val (.bool false) rfl ?_
            go_simp
          rcases i with _ | i
          · obtain rfl := Option.some.inj ho
            have e10 : ρ (.tmp 27) = .bool false := (hdep ⟨10, .data⟩ (by simp) rfl 27 rfl).1
            have ocn : ∀ v, ρ (.const v) = v := fun v => hout (.const v) rfl
            have ofn : ∀ f, ρ (.func f) = .func (.func f) #[] #[] := fun f => hout (.func f) rfl
            clear hdep hout
            refine .inl ⟨?_, ?_⟩
            · rfl
            show GivesP _ _ _ (fun v _ => v = .bool false) _
            refine GivesP.val (.bool false) rfl ?_
            go_simp
          rcases i with _ | i
          · obtain rfl := Option.some.inj ho
            have o4 : ρ (.tmp 4) = Value.pointer (some { block := x1.heap.size + 1, off := 0 }) := hout (.tmp 4) rfl
            have eg : ρ (.tmp 28) = .bool false := (hdep ⟨11, .guard⟩ (by simp) rfl 28 rfl).1
            have yg : y 11 = some false := (hdep ⟨11, .guard⟩ (by simp) rfl 28 rfl).2.trans (by rw [eg]; rfl)
            have ocn : ∀ v, ρ (.const v) = v := fun v => hout (.const v) rfl
            have ofn : ∀ f, ρ (.func f) = .func (.func f) #[] #[] := fun f => hout (.func f) rfl
            clear hdep hout
            refine .inl ⟨?_, ?_⟩
            · show (y 11 == some false) = true
              rw [yg]; rfl
            obtain ⟨_, cc0, cc1, cc2, cc3, cc4, _⟩ := (P2.out.later hBx).box
            show GivesP _ _ _ (fun v _ => v = .agg #[.bool a2, .slice p2 n2 cap2, .bool c2, .int .i64 l2, .int .i64 u2]) _
            refine GivesP.val (.agg #[.bool a2, .slice p2 n2 cap2, .bool c2, .int .i64 l2, .int .i64 u2]) rfl ?_
            go_simp
          rcases i with _ | i
          · obtain rfl := Option.some.inj ho
            have e12 : ρ (.tmp 29) = .agg #[.bool a2, .slice p2 n2 cap2, .bool c2, .int .i64 l2, .int .i64 u2] := (hdep ⟨12, .data⟩ (by simp) rfl 29 rfl).1
            have eg : ρ (.tmp 28) = .bool false := (hdep ⟨11, .guard⟩ (by simp) rfl 28 rfl).1
            have yg : y 11 = some false := (hdep ⟨11, .guard⟩ (by simp) rfl 28 rfl).2.trans (by rw [eg]; rfl)
            have ocn : ∀ v, ρ (.const v) = v := fun v => hout (.const v) rfl
            have ofn : ∀ f, ρ (.func f) = .func (.func f) #[] #[] := fun f => hout (.func f) rfl
            clear hdep hout
            refine .inl ⟨?_, ?_⟩
            · show (y 11 == some false) = true
              rw [yg]; rfl
            show GivesP _ _ _ (fun v _ => v = .bool true) _
            refine GivesP.call ((stOk_spec x true _ _ _ _ L2 _ _ _ (P2.out.later hBx).row).mono fun e w9 h9 => ⟨_, h9.1, by rw [HBo.out], h9.2⟩) ?_
            go_simp
          rcases i with _ | i
          · obtain rfl := Option.some.inj ho
            have e13 : ρ (.tmp 30) = .bool true := (hdep ⟨13, .data⟩ (by simp) rfl 30 rfl).1
            have eg : ρ (.tmp 28) = .bool false := (hdep ⟨11, .guard⟩ (by simp) rfl 28 rfl).1
            have yg : y 11 = some false := (hdep ⟨11, .guard⟩ (by simp) rfl 28 rfl).2.trans (by rw [eg]; rfl)
            have ocn : ∀ v, ρ (.const v) = v := fun v => hout (.const v) rfl
            have ofn : ∀ f, ρ (.func f) = .func (.func f) #[] #[] := fun f => hout (.func f) rfl
            clear hdep hout
            refine .inl ⟨?_, ?_⟩
            · show (y 11 == some false) = true
              rw [yg]; rfl
            show GivesP _ _ _ (fun v _ => v = .bool false) _
            refine GivesP.val (.bool false) rfl ?_
            go_simp
          rcases i with _ | i
          · obtain rfl := Option.some.inj ho
            have e11 : ρ (.tmp 28) = .bool false := (hdep ⟨11, .data⟩ (by simp) rfl 28 rfl).1
            have e14 : ρ (.tmp 31) = .bool false := (hdep ⟨14, .data⟩ (by simp) rfl 31 rfl).1
            have ocn : ∀ v, ρ (.const v) = v := fun v => hout (.const v) rfl
            have ofn : ∀ f, ρ (.func f) = .func (.func f) #[] #[] := fun f => hout (.func f) rfl
            clear hdep hout
            refine .inl ⟨?_, ?_⟩
            · rfl
            show GivesP _ _ _ (fun v _ => v = .bool false) _
            refine GivesP.val (.bool false) rfl ?_
            go_simp
          cases ho
        case fin =>
          intro V x hBx hV
          have ev : V 15 = .bool false := hV 15 (by simp)
          clear hV
          go_wp2_with fail
          go_meet
          exact ⟨ev, HB.out.trans (hBx.mono HB.out.size), P1.out.later hBx, P2.out.later hBx, P5.out.later hBx⟩
      case rest =>
      rename World => z5
      clear HB P1 P2 P5
      obtain ⟨rfl, HB, P1, P2, P5⟩ := hcut
      go_wp2_with fail
      have F := stW_facts HAo.out HBo.out HR.out HJ.out
      cases hin : stIn a2 L2 (c2, l2, u2) a1 L1 (c1, l1, u1)
      · skip
        have HF : Hid (stOk ra rL (rc, rl, ru) = true ∧ stIn ja jL (jc, jl, ju) ra rL (rc, rl, ru) = true ∧ stEq ra rL (rc, rl, ru) a1 L1 (c1, l1, u1) = false ∧ stIn a2 L2 (c2, l2, u2) a1 L1 (c1, l1, u1) = false) := ⟨F.1, F.2.1, F.2.2.trans hin, hin⟩
        clear F hin
        go_cut [2] (fun s y => s = .bool true ∧ Hid (Below w.heap.size w y) ∧ Hid (Pr y w.heap.size x1.heap.size x1.heap.size a1 p1 n1 cap1 c1 l1 u1 L1) ∧ Hid (Pr y w.heap.size x1.heap.size (x1.heap.size + 1) a2 p2 n2 cap2 c2 l2 u2 L2) ∧ Hid (Pr y y1.heap.size x5.heap.size x5.heap.size ra p5 n5 cap5 rc rl ru rL))
        case first =>
          have hBd : Below z5.heap.size z5 z5.drew := (Below.refl _ _).drew
          refine wp_region_preds (by kernel_rfl) (by kernel_rfl) (by kernel_rfl) (by kernel_rfl) (fun j => [(fun v _ => v = .agg #[.bool ra, .slice p5 n5 cap5, .bool rc, .int .i64 rl, .int .i64 ru]), (fun v _ => v = .bool true), (fun v _ => v = .bool true), (fun v _ => v = .agg #[.bool a1, .slice p1 n1 cap1, .bool c1, .int .i64 l1, .int .i64 u1]), (fun v _ => v = .agg #[.bool a2, .slice p2 n2 cap2, .bool c2, .int .i64 l2, .int .i64 u2]), (fun v x => StV (ja, jL, jc, jl, ju) v x), (fun v _ => v = .agg #[.bool ra, .slice p5 n5 cap5, .bool rc, .int .i64 rl, .int .i64 ru]), (fun v _ => v = .bool true), (fun v _ => v = .bool true), (fun v _ => v = .bool true), (fun v _ => v = .agg #[.bool ra, .slice p5 n5 cap5, .bool rc, .int .i64 rl, .int .i64 ru]), (fun v _ => v = .agg #[.bool a1, .slice p1 n1 cap1, .bool c1, .int .i64 l1, .int .i64 u1]), (fun v _ => v = .bool false), (fun v _ => v = .agg #[.bool a2, .slice p2 n2 cap2, .bool c2, .int .i64 l2, .int .i64 u2]), (fun v _ => v = .agg #[.bool a1, .slice p1 n1 cap1, .bool c1, .int .i64 l1, .int .i64 u1]), (fun v _ => v = .bool false), (fun v _ => v = .bool true), (fun v _ => v = .bool true), (fun v _ => v = .bool true)].getD j (fun _ _ => True)) ?stable z5 hBd ?step (fun V => ⟨List.toArray ((Value.slice a len cap) :: (undef) :: (V 18) :: (Value.pointer (some { block := x1.heap.size, off := 0 })) :: (Value.pointer (some { block := x1.heap.size + 1, off := 0 })) :: (Value.pointer (some { block := x5.heap.size, off := 0 })) :: (u6) :: (u7) :: (u8) :: (u9) :: (u10) :: (u11) :: (u12) :: (u13) :: (u14) :: (u15) :: (u16) :: (u17) :: (u18) :: (u19) :: (u20) :: (u21) :: (u22) :: (u23) :: (u24) :: (u25) :: (u26) :: (u27) :: (u28) :: (u29) :: (u30) :: (u31) :: (Value.bool false) :: (u33) :: (u34) :: (u35) :: (u36) :: (u37) :: (V 0) :: (V 1) :: (V 2) :: (V 3) :: (V 4) :: (V 5) :: (V 6) :: (V 7) :: (V 8) :: (V 9) :: (V 10) :: (V 11) :: (V 12) :: (V 13) :: (V 14) :: (V 15) :: (V 16) :: (V 17) :: []), []⟩) (fun V => by kernel_rfl) ?fin
          case stable =>
            intro i v x y ht hb
            rcases i with _ | i
            · exact ht
            rcases i with _ | i
            · exact ht
            rcases i with _ | i
            · exact ht
            rcases i with _ | i
            · exact ht
            rcases i with _ | i
            · exact ht
            rcases i with _ | i
            · exact StV.later ht hb
            rcases i with _ | i
            · exact ht
            rcases i with _ | i
            · exact ht
            rcases i with _ | i
            · exact ht
            rcases i with _ | i
            · exact ht
            rcases i with _ | i
            · exact ht
            rcases i with _ | i
            · exact ht
            rcases i with _ | i
            · exact ht
            rcases i with _ | i
            · exact ht
            rcases i with _ | i
            · exact ht
            rcases i with _ | i
            · exact ht
            rcases i with _ | i
            · exact ht
            rcases i with _ | i
            · exact ht
            rcases i with _ | i
            · exact ht
            exact trivial
          case step =>
            intro i o ho ρ y x hBx hdep hout
            rcases i with _ | i
            · obtain rfl := Option.some.inj ho
              have o5 : ρ (.tmp 5) = Value.pointer (some { block := x5.heap.size, off := 0 }) := hout (.tmp 5) rfl
              have ocn : ∀ v, ρ (.const v) = v := fun v => hout (.const v) rfl
              have ofn : ∀ f, ρ (.func f) = .func (.func f) #[] #[] := fun f => hout (.func f) rfl
              clear hdep hout
              refine .inl ⟨?_, ?_⟩
              · rfl
              obtain ⟨_, cc0, cc1, cc2, cc3, cc4, _⟩ := (P5.out.later hBx).box
              show GivesP _ _ _ (fun v _ => v = .agg #[.bool ra, .slice p5 n5 cap5, .bool rc, .int .i64 rl, .int .i64 ru]) _
              refine GivesP.val (.agg #[.bool ra, .slice p5 n5 cap5, .bool rc, .int .i64 rl, .int .i64 ru]) rfl ?_
              go_simp
            rcases i with _ | i
            · obtain rfl := Option.some.inj ho
              have e0 : ρ (.tmp 38) = .agg #[.bool ra, .slice p5 n5 cap5, .bool rc, .int .i64 rl, .int .i64 ru] := (hdep ⟨0, .data⟩ (by simp) rfl 38 rfl).1
              have ocn : ∀ v, ρ (.const v) = v := fun v => hout (.const v) rfl
              have ofn : ∀ f, ρ (.func f) = .func (.func f) #[] #[] := fun f => hout (.func f) rfl
              clear hdep hout
              refine .inl ⟨?_, ?_⟩
              · rfl
              show GivesP _ _ _ (fun v _ => v = .bool true) _
              refine GivesP.call ((stOk_impl x true _ _ _ _ rL _ _ _ (P5.out.later hBx).row).mono fun e w9 h9 => ⟨_, h9.1, by rw [HF.out.1], h9.2⟩) ?_
              go_simp
            rcases i with _ | i
            · obtain rfl := Option.some.inj ho
              have e1 : ρ (.tmp 39) = .bool true := (hdep ⟨1, .data⟩ (by simp) rfl 39 rfl).1
              have ocn : ∀ v, ρ (.const v) = v := fun v => hout (.const v) rfl
              have ofn : ∀ f, ρ (.func f) = .func (.func f) #[] #[] := fun f => hout (.func f) rfl
              clear hdep hout
              refine .inl ⟨?_, ?_⟩
              · rfl
              show GivesP _ _ _ (fun v _ => v = .bool true) _
              refine GivesP.val (.bool true) rfl ?_
              go_simp
            rcases i with _ | i
            · obtain rfl := Option.some.inj ho
              have o3 : ρ (.tmp 3) = Value.pointer (some { block := x1.heap.size, off := 0 }) := hout (.tmp 3) rfl
              have eg : ρ (.tmp 40) = .bool true := (hdep ⟨2, .guard⟩ (by simp) rfl 40 rfl).1
              have yg : y 2 = some true := (hdep ⟨2, .guard⟩ (by simp) rfl 40 rfl).2.trans (by rw [eg]; rfl)
              have ocn : ∀ v, ρ (.const v) = v := fun v => hout (.const v) rfl
              have ofn : ∀ f, ρ (.func f) = .func (.func f) #[] #[] := fun f => hout (.func f) rfl
              clear hdep hout
              refine .inl ⟨?_, ?_⟩
              · show (y 2 == some true) = true
                rw [yg]; rfl
              obtain ⟨_, cc0, cc1, cc2, cc3, cc4, _⟩ := (P1.out.later hBx).box
              show GivesP _ _ _ (fun v _ => v = .agg #[.bool a1, .slice p1 n1 cap1, .bool c1, .int .i64 l1, .int .i64 u1]) _
              refine GivesP.val (.agg #[.bool a1, .slice p1 n1 cap1, .bool c1, .int .i64 l1, .int .i64 u1]) rfl ?_
              go_simp
            rcases i with _ | i
            · obtain rfl := Option.some.inj ho
              have o4 : ρ (.tmp 4) = Value.pointer (some { block := x1.heap.size + 1, off := 0 }) := hout (.tmp 4) rfl
              have eg : ρ (.tmp 40) = .bool true := (hdep ⟨2, .guard⟩ (by simp) rfl 40 rfl).1
              have yg : y 2 = some true := (hdep ⟨2, .guard⟩ (by simp) rfl 40 rfl).2.trans (by rw [eg]; rfl)
              have ocn : ∀ v, ρ (.const v) = v := fun v => hout (.const v) rfl
              have ofn : ∀ f, ρ (.func f) = .func (.func f) #[] #[] := fun f => hout (.func f) rfl
              clear hdep hout
              refine .inl ⟨?_, ?_⟩
              · show (y 2 == some true) = true
                rw [yg]; rfl
              obtain ⟨_, cc0, cc1, cc2, cc3, cc4, _⟩ := (P2.out.later hBx).box
              show GivesP _ _ _ (fun v _ => v = .agg #[.bool a2, .slice p2 n2 cap2, .bool c2, .int .i64 l2, .int .i64 u2]) _
              refine GivesP.val (.agg #[.bool a2, .slice p2 n2 cap2, .bool c2, .int .i64 l2, .int .i64 u2]) rfl ?_
              go_simp
            rcases i with _ | i
            · obtain rfl := Option.some.inj ho
              have e3 : ρ (.tmp 41) = .agg #[.bool a1, .slice p1 n1 cap1, .bool c1, .int .i64 l1, .int .i64 u1] := (hdep ⟨3, .data⟩ (by simp) rfl 41 rfl).1
              have e4 : ρ (.tmp 42) = .agg #[.bool a2, .slice p2 n2 cap2, .bool c2, .int .i64 l2, .int .i64 u2] := (hdep ⟨4, .data⟩ (by simp) rfl 42 rfl).1
              have eg : ρ (.tmp 40) = .bool true := (hdep ⟨2, .guard⟩ (by simp) rfl 40 rfl).1
              have yg : y 2 = some true := (hdep ⟨2, .guard⟩ (by simp) rfl 40 rfl).2.trans (by rw [eg]; rfl)
              have ocn : ∀ v, ρ (.const v) = v := fun v => hout (.const v) rfl
              have ofn : ∀ f, ρ (.func f) = .func (.func f) #[] #[] := fun f => hout (.func f) rfl
              clear hdep hout
              refine .inl ⟨?_, ?_⟩
              · show (y 2 == some true) = true
                rw [yg]; rfl
              show GivesP _ _ _ (fun v x => StV (ja, jL, jc, jl, ju) v x) _
              refine GivesP.call ((stJoin_impl x true true _ _ _ _ _ _ L1 _ _ _ _ _ L2 _ _ _ (P1.out.later hBx).row (P2.out.later hBx).row).mono fun e w9 h9 => stV_of h9 HJ.out) ?_
              go_simp
            rcases i with _ | i
            · obtain rfl := Option.some.inj ho
              have o5 : ρ (.tmp 5) = Value.pointer (some { block := x5.heap.size, off := 0 }) := hout (.tmp 5) rfl
              have eg : ρ (.tmp 40) = .bool true := (hdep ⟨2, .guard⟩ (by simp) rfl 40 rfl).1
              have yg : y 2 = some true := (hdep ⟨2, .guard⟩ (by simp) rfl 40 rfl).2.trans (by rw [eg]; rfl)
              have ocn : ∀ v, ρ (.const v) = v := fun v => hout (.const v) rfl
              have ofn : ∀ f, ρ (.func f) = .func (.func f) #[] #[] := fun f => hout (.func f) rfl
              clear hdep hout
              refine .inl ⟨?_, ?_⟩
              · show (y 2 == some true) = true
                rw [yg]; rfl
              obtain ⟨_, cc0, cc1, cc2, cc3, cc4, _⟩ := (P5.out.later hBx).box
              show GivesP _ _ _ (fun v _ => v = .agg #[.bool ra, .slice p5 n5 cap5, .bool rc, .int .i64 rl, .int .i64 ru]) _
              refine GivesP.val (.agg #[.bool ra, .slice p5 n5 cap5, .bool rc, .int .i64 rl, .int .i64 ru]) rfl ?_
              go_simp
            rcases i with _ | i
            · obtain rfl := Option.some.inj ho
              have t5 : StV (ja, jL, jc, jl, ju) (ρ (.tmp 43)) x := (hdep ⟨5, .data⟩ (by simp) rfl 43 rfl).1
              obtain ⟨q5, k5, B5, E5, e5, s5⟩ := t5
              have e6 : ρ (.tmp 44) = .agg #[.bool ra, .slice p5 n5 cap5, .bool rc, .int .i64 rl, .int .i64 ru] := (hdep ⟨6, .data⟩ (by simp) rfl 44 rfl).1
              have eg : ρ (.tmp 40) = .bool true := (hdep ⟨2, .guard⟩ (by simp) rfl 40 rfl).1
              have yg : y 2 = some true := (hdep ⟨2, .guard⟩ (by simp) rfl 40 rfl).2.trans (by rw [eg]; rfl)
              have ocn : ∀ v, ρ (.const v) = v := fun v => hout (.const v) rfl
              have ofn : ∀ f, ρ (.func f) = .func (.func f) #[] #[] := fun f => hout (.func f) rfl
              clear hdep hout
              refine .inl ⟨?_, ?_⟩
              · show (y 2 == some true) = true
                rw [yg]; rfl
              show GivesP _ _ _ (fun v _ => v = .bool true) _
              refine GivesP.call ((stIn_impl x true true _ _ _ _ _ _ jL _ _ _ _ _ rL _ _ _ s5 (P5.out.later hBx).row).mono fun e w9 h9 => ⟨_, h9.1, by rw [HF.out.2.1], h9.2⟩) ?_
              go_simp
            rcases i with _ | i
            · obtain rfl := Option.some.inj ho
              have e2 : ρ (.tmp 40) = .bool true := (hdep ⟨2, .data⟩ (by simp) rfl 40 rfl).1
              have e7 : ρ (.tmp 45) = .bool true := (hdep ⟨7, .data⟩ (by simp) rfl 45 rfl).1
              have ocn : ∀ v, ρ (.const v) = v := fun v => hout (.const v) rfl
              have ofn : ∀ f, ρ (.func f) = .func (.func f) #[] #[] := fun f => hout (.func f) rfl
              clear hdep hout
              refine .inl ⟨?_, ?_⟩
              · rfl
              show GivesP _ _ _ (fun v _ => v = .bool true) _
              refine GivesP.val (.bool true) rfl ?_
              go_simp
            rcases i with _ | i
            · obtain rfl := Option.some.inj ho
              have e8 : ρ (.tmp 46) = .bool true := (hdep ⟨8, .data⟩ (by simp) rfl 46 rfl).1
              have ocn : ∀ v, ρ (.const v) = v := fun v => hout (.const v) rfl
              have ofn : ∀ f, ρ (.func f) = .func (.func f) #[] #[] := fun f => hout (.func f) rfl
              clear hdep hout
              refine .inl ⟨?_, ?_⟩
              · rfl
              show GivesP _ _ _ (fun v _ => v = .bool true) _
              refine GivesP.val (.bool true) rfl ?_
              go_simp
            rcases i with _ | i
            · obtain rfl := Option.some.inj ho
              have o5 : ρ (.tmp 5) = Value.pointer (some { block := x5.heap.size, off := 0 }) := hout (.tmp 5) rfl
              have eg : ρ (.tmp 47) = .bool true := (hdep ⟨9, .guard⟩ (by simp) rfl 47 rfl).1
              have yg : y 9 = some true := (hdep ⟨9, .guard⟩ (by simp) rfl 47 rfl).2.trans (by rw [eg]; rfl)
              have ocn : ∀ v, ρ (.const v) = v := fun v => hout (.const v) rfl
              have ofn : ∀ f, ρ (.func f) = .func (.func f) #[] #[] := fun f => hout (.func f) rfl
              clear hdep hout
              refine .inl ⟨?_, ?_⟩
              · show (y 9 == some true) = true
                rw [yg]; rfl
              obtain ⟨_, cc0, cc1, cc2, cc3, cc4, _⟩ := (P5.out.later hBx).box
              show GivesP _ _ _ (fun v _ => v = .agg #[.bool ra, .slice p5 n5 cap5, .bool rc, .int .i64 rl, .int .i64 ru]) _
              refine GivesP.val (.agg #[.bool ra, .slice p5 n5 cap5, .bool rc, .int .i64 rl, .int .i64 ru]) rfl ?_
              go_simp
            rcases i with _ | i
            · obtain rfl := Option.some.inj ho
              have o3 : ρ (.tmp 3) = Value.pointer (some { block := x1.heap.size, off := 0 }) := hout (.tmp 3) rfl
              have eg : ρ (.tmp 47) = .bool true := (hdep ⟨9, .guard⟩ (by simp) rfl 47 rfl).1
              have yg : y 9 = some true := (hdep ⟨9, .guard⟩ (by simp) rfl 47 rfl).2.trans (by rw [eg]; rfl)
              have ocn : ∀ v, ρ (.const v) = v := fun v => hout (.const v) rfl
              have ofn : ∀ f, ρ (.func f) = .func (.func f) #[] #[] := fun f => hout (.func f) rfl
              clear hdep hout
              refine .inl ⟨?_, ?_⟩
              · show (y 9 == some true) = true
                rw [yg]; rfl
              obtain ⟨_, cc0, cc1, cc2, cc3, cc4, _⟩ := (P1.out.later hBx).box
              show GivesP _ _ _ (fun v _ => v = .agg #[.bool a1, .slice p1 n1 cap1, .bool c1, .int .i64 l1, .int .i64 u1]) _
              refine GivesP.val (.agg #[.bool a1, .slice p1 n1 cap1, .bool c1, .int .i64 l1, .int .i64 u1]) rfl ?_
              go_simp
            rcases i with _ | i
            · obtain rfl := Option.some.inj ho
              have e10 : ρ (.tmp 48) = .agg #[.bool ra, .slice p5 n5 cap5, .bool rc, .int .i64 rl, .int .i64 ru] := (hdep ⟨10, .data⟩ (by simp) rfl 48 rfl).1
              have e11 : ρ (.tmp 49) = .agg #[.bool a1, .slice p1 n1 cap1, .bool c1, .int .i64 l1, .int .i64 u1] := (hdep ⟨11, .data⟩ (by simp) rfl 49 rfl).1
              have eg : ρ (.tmp 47) = .bool true := (hdep ⟨9, .guard⟩ (by simp) rfl 47 rfl).1
              have yg : y 9 = some true := (hdep ⟨9, .guard⟩ (by simp) rfl 47 rfl).2.trans (by rw [eg]; rfl)
              have ocn : ∀ v, ρ (.const v) = v := fun v => hout (.const v) rfl
              have ofn : ∀ f, ρ (.func f) = .func (.func f) #[] #[] := fun f => hout (.func f) rfl
              clear hdep hout
              refine .inl ⟨?_, ?_⟩
              · show (y 9 == some true) = true
                rw [yg]; rfl
              show GivesP _ _ _ (fun v _ => v = .bool false) _
              refine GivesP.call ((lgState_any x true true _ _ _ _ _ _ rL _ _ _ _ _ L1 _ _ _ (P5.out.later hBx).row (P1.out.later hBx).row HQ5.out.2 HQ1.out.1.2).mono fun e w9 h9 => ⟨_, h9.1, by rw [HF.out.2.2.1], h9.2⟩) ?_
              go_simp
            rcases i with _ | i
            · obtain rfl := Option.some.inj ho
              have o4 : ρ (.tmp 4) = Value.pointer (some { block := x1.heap.size + 1, off := 0 }) := hout (.tmp 4) rfl
              have eg : ρ (.tmp 47) = .bool true := (hdep ⟨9, .guard⟩ (by simp) rfl 47 rfl).1
              have yg : y 9 = some true := (hdep ⟨9, .guard⟩ (by simp) rfl 47 rfl).2.trans (by rw [eg]; rfl)
              have ocn : ∀ v, ρ (.const v) = v := fun v => hout (.const v) rfl
              have ofn : ∀ f, ρ (.func f) = .func (.func f) #[] #[] := fun f => hout (.func f) rfl
              clear hdep hout
              refine .inl ⟨?_, ?_⟩
              · show (y 9 == some true) = true
                rw [yg]; rfl
              obtain ⟨_, cc0, cc1, cc2, cc3, cc4, _⟩ := (P2.out.later hBx).box
              show GivesP _ _ _ (fun v _ => v = .agg #[.bool a2, .slice p2 n2 cap2, .bool c2, .int .i64 l2, .int .i64 u2]) _
              refine GivesP.val (.agg #[.bool a2, .slice p2 n2 cap2, .bool c2, .int .i64 l2, .int .i64 u2]) rfl ?_
              go_simp
            rcases i with _ | i
            · obtain rfl := Option.some.inj ho
              have o3 : ρ (.tmp 3) = Value.pointer (some { block := x1.heap.size, off := 0 }) := hout (.tmp 3) rfl
              have eg : ρ (.tmp 47) = .bool true := (hdep ⟨9, .guard⟩ (by simp) rfl 47 rfl).1
              have yg : y 9 = some true := (hdep ⟨9, .guard⟩ (by simp) rfl 47 rfl).2.trans (by rw [eg]; rfl)
              have ocn : ∀ v, ρ (.const v) = v := fun v => hout (.const v) rfl
              have ofn : ∀ f, ρ (.func f) = .func (.func f) #[] #[] := fun f => hout (.func f) rfl
              clear hdep hout
              refine .inl ⟨?_, ?_⟩
              · show (y 9 == some true) = true
                rw [yg]; rfl
              obtain ⟨_, cc0, cc1, cc2, cc3, cc4, _⟩ := (P1.out.later hBx).box
              show GivesP _ _ _ (fun v _ => v = .agg #[.bool a1, .slice p1 n1 cap1, .bool c1, .int .i64 l1, .int .i64 u1]) _
              refine GivesP.val (.agg #[.bool a1, .slice p1 n1 cap1, .bool c1, .int .i64 l1, .int .i64 u1]) rfl ?_
              go_simp
            rcases i with _ | i
            · obtain rfl := Option.some.inj ho
              have e13 : ρ (.tmp 51) = .agg #[.bool a2, .slice p2 n2 cap2, .bool c2, .int .i64 l2, .int .i64 u2] := (hdep ⟨13, .data⟩ (by simp) rfl 51 rfl).1
              have e14 : ρ (.tmp 52) = .agg #[.bool a1, .slice p1 n1 cap1, .bool c1, .int .i64 l1, .int .i64 u1] := (hdep ⟨14, .data⟩ (by simp) rfl 52 rfl).1
              have eg : ρ (.tmp 47) = .bool true := (hdep ⟨9, .guard⟩ (by simp) rfl 47 rfl).1
              have yg : y 9 = some true := (hdep ⟨9, .guard⟩ (by simp) rfl 47 rfl).2.trans (by rw [eg]; rfl)
              have ocn : ∀ v, ρ (.const v) = v := fun v => hout (.const v) rfl
              have ofn : ∀ f, ρ (.func f) = .func (.func f) #[] #[] := fun f => hout (.func f) rfl
              clear hdep hout
              refine .inl ⟨?_, ?_⟩
              · show (y 9 == some true) = true
                rw [yg]; rfl
              show GivesP _ _ _ (fun v _ => v = .bool false) _
              refine GivesP.call ((stIn_impl x true true _ _ _ _ _ _ L2 _ _ _ _ _ L1 _ _ _ (P2.out.later hBx).row (P1.out.later hBx).row).mono fun e w9 h9 => ⟨_, h9.1, by rw [HF.out.2.2.2], h9.2⟩) ?_
              go_simp
            rcases i with _ | i
            · obtain rfl := Option.some.inj ho
              have e12 : ρ (.tmp 50) = .bool false := (hdep ⟨12, .data⟩ (by simp) rfl 50 rfl).1
              have e15 : ρ (.tmp 53) = .bool false := (hdep ⟨15, .data⟩ (by simp) rfl 53 rfl).1
              have eg : ρ (.tmp 47) = .bool true := (hdep ⟨9, .guard⟩ (by simp) rfl 47 rfl).1
              have yg : y 9 = some true := (hdep ⟨9, .guard⟩ (by simp) rfl 47 rfl).2.trans (by rw [eg]; rfl)
              have ocn : ∀ v, ρ (.const v) = v := fun v => hout (.const v) rfl
              have ofn : ∀ f, ρ (.func f) = .func (.func f) #[] #[] := fun f => hout (.func f) rfl
              clear hdep hout
              refine .inl ⟨?_, ?_⟩
              · show (y 9 == some true) = true
                rw [yg]; rfl
              show GivesP _ _ _ (fun v _ => v = .bool true) _
              refine GivesP.val (.bool true) rfl ?_
              go_simp
            rcases i with _ | i
            · obtain rfl := Option.some.inj ho
              have e9 : ρ (.tmp 47) = .bool true := (hdep ⟨9, .data⟩ (by simp) rfl 47 rfl).1
              have e16 : ρ (.tmp 54) = .bool true := (hdep ⟨16, .data⟩ (by simp) rfl 54 rfl).1
              have ocn : ∀ v, ρ (.const v) = v := fun v => hout (.const v) rfl
              have ofn : ∀ f, ρ (.func f) = .func (.func f) #[] #[] := fun f => hout (.func f) rfl
              clear hdep hout
              refine .inl ⟨?_, ?_⟩
              · rfl
              show GivesP _ _ _ (fun v _ => v = .bool true) _
              refine GivesP.val (.bool true) rfl ?_
              go_simp
            rcases i with _ | i
            · obtain rfl := Option.some.inj ho
              have e17 : ρ (.tmp 55) = .bool true := (hdep ⟨17, .data⟩ (by simp) rfl 55 rfl).1
              have ocn : ∀ v, ρ (.const v) = v := fun v => hout (.const v) rfl
              have ofn : ∀ f, ρ (.func f) = .func (.func f) #[] #[] := fun f => hout (.func f) rfl
              clear hdep hout
              refine .inl ⟨?_, ?_⟩
              · rfl
              show GivesP _ _ _ (fun v _ => v = .bool true) _
              refine GivesP.val (.bool true) rfl ?_
              go_simp
            cases ho
          case fin =>
            intro V x hBx hV
            have ev : V 18 = .bool true := hV 18 (by simp)
            clear hV
            go_wp2_with fail
            go_meet
            exact ⟨ev, HB.out.trans (hBx.mono HB.out.size), P1.out.later hBx, P2.out.later hBx, P5.out.later hBx⟩
        case rest =>
        rename World => z6
        clear HB P1 P2 P5
        obtain ⟨rfl, HB, P1, P2, P5⟩ := hcut
        go_wp2_with fail
        go_ret
        exact ⟨rfl, HB.out⟩
      · skip
        have HF : Hid (stOk ra rL (rc, rl, ru) = true ∧ stIn ja jL (jc, jl, ju) ra rL (rc, rl, ru) = true ∧ stEq ra rL (rc, rl, ru) a1 L1 (c1, l1, u1) = true ∧ stIn a2 L2 (c2, l2, u2) a1 L1 (c1, l1, u1) = true) := ⟨F.1, F.2.1, F.2.2.trans hin, hin⟩
        clear F hin
        go_cut [2] (fun s y => s = .bool true ∧ Hid (Below w.heap.size w y) ∧ Hid (Pr y w.heap.size x1.heap.size x1.heap.size a1 p1 n1 cap1 c1 l1 u1 L1) ∧ Hid (Pr y w.heap.size x1.heap.size (x1.heap.size + 1) a2 p2 n2 cap2 c2 l2 u2 L2) ∧ Hid (Pr y y1.heap.size x5.heap.size x5.heap.size ra p5 n5 cap5 rc rl ru rL))
        case first =>
          have hBd : Below z5.heap.size z5 z5.drew := (Below.refl _ _).drew
          refine wp_region_preds (by kernel_rfl) (by kernel_rfl) (by kernel_rfl) (by kernel_rfl) (fun j => [(fun v _ => v = .agg #[.bool ra, .slice p5 n5 cap5, .bool rc, .int .i64 rl, .int .i64 ru]), (fun v _ => v = .bool true), (fun v _ => v = .bool true), (fun v _ => v = .agg #[.bool a1, .slice p1 n1 cap1, .bool c1, .int .i64 l1, .int .i64 u1]), (fun v _ => v = .agg #[.bool a2, .slice p2 n2 cap2, .bool c2, .int .i64 l2, .int .i64 u2]), (fun v x => StV (ja, jL, jc, jl, ju) v x), (fun v _ => v = .agg #[.bool ra, .slice p5 n5 cap5, .bool rc, .int .i64 rl, .int .i64 ru]), (fun v _ => v = .bool true), (fun v _ => v = .bool true), (fun v _ => v = .bool true), (fun v _ => v = .agg #[.bool ra, .slice p5 n5 cap5, .bool rc, .int .i64 rl, .int .i64 ru]), (fun v _ => v = .agg #[.bool a1, .slice p1 n1 cap1, .bool c1, .int .i64 l1, .int .i64 u1]), (fun v _ => v = .bool true), (fun v _ => v = .agg #[.bool a2, .slice p2 n2 cap2, .bool c2, .int .i64 l2, .int .i64 u2]), (fun v _ => v = .agg #[.bool a1, .slice p1 n1 cap1, .bool c1, .int .i64 l1, .int .i64 u1]), (fun v _ => v = .bool true), (fun v _ => v = .bool true), (fun v _ => v = .bool true), (fun v _ => v = .bool true)].getD j (fun _ _ => True)) ?stable z5 hBd ?step (fun V => ⟨List.toArray ((Value.slice a len cap) :: (undef) :: (V 18) :: (Value.pointer (some { block := x1.heap.size, off := 0 })) :: (Value.pointer (some { block := x1.heap.size + 1, off := 0 })) :: (Value.pointer (some { block := x5.heap.size, off := 0 })) :: (u6) :: (u7) :: (u8) :: (u9) :: (u10) :: (u11) :: (u12) :: (u13) :: (u14) :: (u15) :: (u16) :: (u17) :: (u18) :: (u19) :: (u20) :: (u21) :: (u22) :: (u23) :: (u24) :: (u25) :: (u26) :: (u27) :: (u28) :: (u29) :: (u30) :: (u31) :: (Value.bool false) :: (u33) :: (u34) :: (u35) :: (u36) :: (u37) :: (V 0) :: (V 1) :: (V 2) :: (V 3) :: (V 4) :: (V 5) :: (V 6) :: (V 7) :: (V 8) :: (V 9) :: (V 10) :: (V 11) :: (V 12) :: (V 13) :: (V 14) :: (V 15) :: (V 16) :: (V 17) :: []), []⟩) (fun V => by kernel_rfl) ?fin
          case stable =>
            intro i v x y ht hb
            rcases i with _ | i
            · exact ht
            rcases i with _ | i
            · exact ht
            rcases i with _ | i
            · exact ht
            rcases i with _ | i
            · exact ht
            rcases i with _ | i
            · exact ht
            rcases i with _ | i
            · exact StV.later ht hb
            rcases i with _ | i
            · exact ht
            rcases i with _ | i
            · exact ht
            rcases i with _ | i
            · exact ht
            rcases i with _ | i
            · exact ht
            rcases i with _ | i
            · exact ht
            rcases i with _ | i
            · exact ht
            rcases i with _ | i
            · exact ht
            rcases i with _ | i
            · exact ht
            rcases i with _ | i
            · exact ht
            rcases i with _ | i
            · exact ht
            rcases i with _ | i
            · exact ht
            rcases i with _ | i
            · exact ht
            rcases i with _ | i
            · exact ht
            exact trivial
          case step =>
            intro i o ho ρ y x hBx hdep hout
            rcases i with _ | i
            · obtain rfl := Option.some.inj ho
              have o5 : ρ (.tmp 5) = Value.pointer (some { block := x5.heap.size, off := 0 }) := hout (.tmp 5) rfl
              have ocn : ∀ v, ρ (.const v) = v := fun v => hout (.const v) rfl
              have ofn : ∀ f, ρ (.func f) = .func (.func f) #[] #[] := fun f => hout (.func f) rfl
              clear hdep hout
              refine .inl ⟨?_, ?_⟩
              · rfl
              obtain ⟨_, cc0, cc1, cc2, cc3, cc4, _⟩ := (P5.out.later hBx).box
              show GivesP _ _ _ (fun v _ => v = .agg #[.bool ra, .slice p5 n5 cap5, .bool rc, .int .i64 rl, .int .i64 ru]) _
              refine GivesP.val (.agg #[.bool ra, .slice p5 n5 cap5, .bool rc, .int .i64 rl, .int .i64 ru]) rfl ?_
              go_simp
            rcases i with _ | i
            · obtain rfl := Option.some.inj ho
              have e0 : ρ (.tmp 38) = .agg #[.bool ra, .slice p5 n5 cap5, .bool rc, .int .i64 rl, .int .i64 ru] := (hdep ⟨0, .data⟩ (by simp) rfl 38 rfl).1
              have ocn : ∀ v, ρ (.const v) = v := fun v => hout (.const v) rfl
              have ofn : ∀ f, ρ (.func f) = .func (.func f) #[] #[] := fun f => hout (.func f) rfl
              clear hdep hout
              refine .inl ⟨?_, ?_⟩
              · rfl
              show GivesP _ _ _ (fun v _ => v = .bool true) _
              refine GivesP.call ((stOk_impl x true _ _ _ _ rL _ _ _ (P5.out.later hBx).row).mono fun e w9 h9 => ⟨_, h9.1, by rw [HF.out.1], h9.2⟩) ?_
              go_simp
            rcases i with _ | i
            · obtain rfl := Option.some.inj ho
              have e1 : ρ (.tmp 39) = .bool true := (hdep ⟨1, .data⟩ (by simp) rfl 39 rfl).1
              have ocn : ∀ v, ρ (.const v) = v := fun v => hout (.const v) rfl
              have ofn : ∀ f, ρ (.func f) = .func (.func f) #[] #[] := fun f => hout (.func f) rfl
              clear hdep hout
              refine .inl ⟨?_, ?_⟩
              · rfl
              show GivesP _ _ _ (fun v _ => v = .bool true) _
              refine GivesP.val (.bool true) rfl ?_
              go_simp
            rcases i with _ | i
            · obtain rfl := Option.some.inj ho
              have o3 : ρ (.tmp 3) = Value.pointer (some { block := x1.heap.size, off := 0 }) := hout (.tmp 3) rfl
              have eg : ρ (.tmp 40) = .bool true := (hdep ⟨2, .guard⟩ (by simp) rfl 40 rfl).1
              have yg : y 2 = some true := (hdep ⟨2, .guard⟩ (by simp) rfl 40 rfl).2.trans (by rw [eg]; rfl)
              have ocn : ∀ v, ρ (.const v) = v := fun v => hout (.const v) rfl
              have ofn : ∀ f, ρ (.func f) = .func (.func f) #[] #[] := fun f => hout (.func f) rfl
              clear hdep hout
              refine .inl ⟨?_, ?_⟩
              · show (y 2 == some true) = true
                rw [yg]; rfl
              obtain ⟨_, cc0, cc1, cc2, cc3, cc4, _⟩ := (P1.out.later hBx).box
              show GivesP _ _ _ (fun v _ => v = .agg #[.bool a1, .slice p1 n1 cap1, .bool c1, .int .i64 l1, .int .i64 u1]) _
              refine GivesP.val (.agg #[.bool a1, .slice p1 n1 cap1, .bool c1, .int .i64 l1, .int .i64 u1]) rfl ?_
              go_simp
            rcases i with _ | i
            · obtain rfl := Option.some.inj ho
              have o4 : ρ (.tmp 4) = Value.pointer (some { block := x1.heap.size + 1, off := 0 }) := hout (.tmp 4) rfl
              have eg : ρ (.tmp 40) = .bool true := (hdep ⟨2, .guard⟩ (by simp) rfl 40 rfl).1
              have yg : y 2 = some true := (hdep ⟨2, .guard⟩ (by simp) rfl 40 rfl).2.trans (by rw [eg]; rfl)
              have ocn : ∀ v, ρ (.const v) = v := fun v => hout (.const v) rfl
              have ofn : ∀ f, ρ (.func f) = .func (.func f) #[] #[] := fun f => hout (.func f) rfl
              clear hdep hout
              refine .inl ⟨?_, ?_⟩
              · show (y 2 == some true) = true
                rw [yg]; rfl
              obtain ⟨_, cc0, cc1, cc2, cc3, cc4, _⟩ := (P2.out.later hBx).box
              show GivesP _ _ _ (fun v _ => v = .agg #[.bool a2, .slice p2 n2 cap2, .bool c2, .int .i64 l2, .int .i64 u2]) _
              refine GivesP.val (.agg #[.bool a2, .slice p2 n2 cap2, .bool c2, .int .i64 l2, .int .i64 u2]) rfl ?_
              go_simp
            rcases i with _ | i
            · obtain rfl := Option.some.inj ho
              have e3 : ρ (.tmp 41) = .agg #[.bool a1, .slice p1 n1 cap1, .bool c1, .int .i64 l1, .int .i64 u1] := (hdep ⟨3, .data⟩ (by simp) rfl 41 rfl).1
              have e4 : ρ (.tmp 42) = .agg #[.bool a2, .slice p2 n2 cap2, .bool c2, .int .i64 l2, .int .i64 u2] := (hdep ⟨4, .data⟩ (by simp) rfl 42 rfl).1
              have eg : ρ (.tmp 40) = .bool true := (hdep ⟨2, .guard⟩ (by simp) rfl 40 rfl).1
              have yg : y 2 = some true := (hdep ⟨2, .guard⟩ (by simp) rfl 40 rfl).2.trans (by rw [eg]; rfl)
              have ocn : ∀ v, ρ (.const v) = v := fun v => hout (.const v) rfl
              have ofn : ∀ f, ρ (.func f) = .func (.func f) #[] #[] := fun f => hout (.func f) rfl
              clear hdep hout
              refine .inl ⟨?_, ?_⟩
              · show (y 2 == some true) = true
                rw [yg]; rfl
              show GivesP _ _ _ (fun v x => StV (ja, jL, jc, jl, ju) v x) _
              refine GivesP.call ((stJoin_impl x true true _ _ _ _ _ _ L1 _ _ _ _ _ L2 _ _ _ (P1.out.later hBx).row (P2.out.later hBx).row).mono fun e w9 h9 => stV_of h9 HJ.out) ?_
              go_simp
            rcases i with _ | i
            · obtain rfl := Option.some.inj ho
              have o5 : ρ (.tmp 5) = Value.pointer (some { block := x5.heap.size, off := 0 }) := hout (.tmp 5) rfl
              have eg : ρ (.tmp 40) = .bool true := (hdep ⟨2, .guard⟩ (by simp) rfl 40 rfl).1
              have yg : y 2 = some true := (hdep ⟨2, .guard⟩ (by simp) rfl 40 rfl).2.trans (by rw [eg]; rfl)
              have ocn : ∀ v, ρ (.const v) = v := fun v => hout (.const v) rfl
              have ofn : ∀ f, ρ (.func f) = .func (.func f) #[] #[] := fun f => hout (.func f) rfl
              clear hdep hout
              refine .inl ⟨?_, ?_⟩
              · show (y 2 == some true) = true
                rw [yg]; rfl
              obtain ⟨_, cc0, cc1, cc2, cc3, cc4, _⟩ := (P5.out.later hBx).box
              show GivesP _ _ _ (fun v _ => v = .agg #[.bool ra, .slice p5 n5 cap5, .bool rc, .int .i64 rl, .int .i64 ru]) _
              refine GivesP.val (.agg #[.bool ra, .slice p5 n5 cap5, .bool rc, .int .i64 rl, .int .i64 ru]) rfl ?_
              go_simp
            rcases i with _ | i
            · obtain rfl := Option.some.inj ho
              have t5 : StV (ja, jL, jc, jl, ju) (ρ (.tmp 43)) x := (hdep ⟨5, .data⟩ (by simp) rfl 43 rfl).1
              obtain ⟨q5, k5, B5, E5, e5, s5⟩ := t5
              have e6 : ρ (.tmp 44) = .agg #[.bool ra, .slice p5 n5 cap5, .bool rc, .int .i64 rl, .int .i64 ru] := (hdep ⟨6, .data⟩ (by simp) rfl 44 rfl).1
              have eg : ρ (.tmp 40) = .bool true := (hdep ⟨2, .guard⟩ (by simp) rfl 40 rfl).1
              have yg : y 2 = some true := (hdep ⟨2, .guard⟩ (by simp) rfl 40 rfl).2.trans (by rw [eg]; rfl)
              have ocn : ∀ v, ρ (.const v) = v := fun v => hout (.const v) rfl
              have ofn : ∀ f, ρ (.func f) = .func (.func f) #[] #[] := fun f => hout (.func f) rfl
              clear hdep hout
              refine .inl ⟨?_, ?_⟩
              · show (y 2 == some true) = true
                rw [yg]; rfl
              show GivesP _ _ _ (fun v _ => v = .bool true) _
              refine GivesP.call ((stIn_impl x true true _ _ _ _ _ _ jL _ _ _ _ _ rL _ _ _ s5 (P5.out.later hBx).row).mono fun e w9 h9 => ⟨_, h9.1, by rw [HF.out.2.1], h9.2⟩) ?_
              go_simp
            rcases i with _ | i
            · obtain rfl := Option.some.inj ho
              have e2 : ρ (.tmp 40) = .bool true := (hdep ⟨2, .data⟩ (by simp) rfl 40 rfl).1
              have e7 : ρ (.tmp 45) = .bool true := (hdep ⟨7, .data⟩ (by simp) rfl 45 rfl).1
              have ocn : ∀ v, ρ (.const v) = v := fun v => hout (.const v) rfl
              have ofn : ∀ f, ρ (.func f) = .func (.func f) #[] #[] := fun f => hout (.func f) rfl
              clear hdep hout
              refine .inl ⟨?_, ?_⟩
              · rfl
              show GivesP _ _ _ (fun v _ => v = .bool true) _
              refine GivesP.val (.bool true) rfl ?_
              go_simp
            rcases i with _ | i
            · obtain rfl := Option.some.inj ho
              have e8 : ρ (.tmp 46) = .bool true := (hdep ⟨8, .data⟩ (by simp) rfl 46 rfl).1
              have ocn : ∀ v, ρ (.const v) = v := fun v => hout (.const v) rfl
              have ofn : ∀ f, ρ (.func f) = .func (.func f) #[] #[] := fun f => hout (.func f) rfl
              clear hdep hout
              refine .inl ⟨?_, ?_⟩
              · rfl
              show GivesP _ _ _ (fun v _ => v = .bool true) _
              refine GivesP.val (.bool true) rfl ?_
              go_simp
            rcases i with _ | i
            · obtain rfl := Option.some.inj ho
              have o5 : ρ (.tmp 5) = Value.pointer (some { block := x5.heap.size, off := 0 }) := hout (.tmp 5) rfl
              have eg : ρ (.tmp 47) = .bool true := (hdep ⟨9, .guard⟩ (by simp) rfl 47 rfl).1
              have yg : y 9 = some true := (hdep ⟨9, .guard⟩ (by simp) rfl 47 rfl).2.trans (by rw [eg]; rfl)
              have ocn : ∀ v, ρ (.const v) = v := fun v => hout (.const v) rfl
              have ofn : ∀ f, ρ (.func f) = .func (.func f) #[] #[] := fun f => hout (.func f) rfl
              clear hdep hout
              refine .inl ⟨?_, ?_⟩
              · show (y 9 == some true) = true
                rw [yg]; rfl
              obtain ⟨_, cc0, cc1, cc2, cc3, cc4, _⟩ := (P5.out.later hBx).box
              show GivesP _ _ _ (fun v _ => v = .agg #[.bool ra, .slice p5 n5 cap5, .bool rc, .int .i64 rl, .int .i64 ru]) _
              refine GivesP.val (.agg #[.bool ra, .slice p5 n5 cap5, .bool rc, .int .i64 rl, .int .i64 ru]) rfl ?_
              go_simp
            rcases i with _ | i
            · obtain rfl := Option.some.inj ho
              have o3 : ρ (.tmp 3) = Value.pointer (some { block := x1.heap.size, off := 0 }) := hout (.tmp 3) rfl
              have eg : ρ (.tmp 47) = .bool true := (hdep ⟨9, .guard⟩ (by simp) rfl 47 rfl).1
              have yg : y 9 = some true := (hdep ⟨9, .guard⟩ (by simp) rfl 47 rfl).2.trans (by rw [eg]; rfl)
              have ocn : ∀ v, ρ (.const v) = v := fun v => hout (.const v) rfl
              have ofn : ∀ f, ρ (.func f) = .func (.func f) #[] #[] := fun f => hout (.func f) rfl
              clear hdep hout
              refine .inl ⟨?_, ?_⟩
              · show (y 9 == some true) = true
                rw [yg]; rfl
              obtain ⟨_, cc0, cc1, cc2, cc3, cc4, _⟩ := (P1.out.later hBx).box
              show GivesP _ _ _ (fun v _ => v = .agg #[.bool a1, .slice p1 n1 cap1, .bool c1, .int .i64 l1, .int .i64 u1]) _
              refine GivesP.val (.agg #[.bool a1, .slice p1 n1 cap1, .bool c1, .int .i64 l1, .int .i64 u1]) rfl ?_
              go_simp
            rcases i with _ | i
            · obtain rfl := Option.some.inj ho
              have e10 : ρ (.tmp 48) = .agg #[.bool ra, .slice p5 n5 cap5, .bool rc, .int .i64 rl, .int .i64 ru] := (hdep ⟨10, .data⟩ (by simp) rfl 48 rfl).1
              have e11 : ρ (.tmp 49) = .agg #[.bool a1, .slice p1 n1 cap1, .bool c1, .int .i64 l1, .int .i64 u1] := (hdep ⟨11, .data⟩ (by simp) rfl 49 rfl).1
              have eg : ρ (.tmp 47) = .bool true := (hdep ⟨9, .guard⟩ (by simp) rfl 47 rfl).1
              have yg : y 9 = some true := (hdep ⟨9, .guard⟩ (by simp) rfl 47 rfl).2.trans (by rw [eg]; rfl)
              have ocn : ∀ v, ρ (.const v) = v := fun v => hout (.const v) rfl
              have ofn : ∀ f, ρ (.func f) = .func (.func f) #[] #[] := fun f => hout (.func f) rfl
              clear hdep hout
              refine .inl ⟨?_, ?_⟩
              · show (y 9 == some true) = true
                rw [yg]; rfl
              show GivesP _ _ _ (fun v _ => v = .bool true) _
              refine GivesP.call ((lgState_any x true true _ _ _ _ _ _ rL _ _ _ _ _ L1 _ _ _ (P5.out.later hBx).row (P1.out.later hBx).row HQ5.out.2 HQ1.out.1.2).mono fun e w9 h9 => ⟨_, h9.1, by rw [HF.out.2.2.1], h9.2⟩) ?_
              go_simp
            rcases i with _ | i
            · obtain rfl := Option.some.inj ho
              have o4 : ρ (.tmp 4) = Value.pointer (some { block := x1.heap.size + 1, off := 0 }) := hout (.tmp 4) rfl
              have eg : ρ (.tmp 47) = .bool true := (hdep ⟨9, .guard⟩ (by simp) rfl 47 rfl).1
              have yg : y 9 = some true := (hdep ⟨9, .guard⟩ (by simp) rfl 47 rfl).2.trans (by rw [eg]; rfl)
              have ocn : ∀ v, ρ (.const v) = v := fun v => hout (.const v) rfl
              have ofn : ∀ f, ρ (.func f) = .func (.func f) #[] #[] := fun f => hout (.func f) rfl
              clear hdep hout
              refine .inl ⟨?_, ?_⟩
              · show (y 9 == some true) = true
                rw [yg]; rfl
              obtain ⟨_, cc0, cc1, cc2, cc3, cc4, _⟩ := (P2.out.later hBx).box
              show GivesP _ _ _ (fun v _ => v = .agg #[.bool a2, .slice p2 n2 cap2, .bool c2, .int .i64 l2, .int .i64 u2]) _
              refine GivesP.val (.agg #[.bool a2, .slice p2 n2 cap2, .bool c2, .int .i64 l2, .int .i64 u2]) rfl ?_
              go_simp
            rcases i with _ | i
            · obtain rfl := Option.some.inj ho
              have o3 : ρ (.tmp 3) = Value.pointer (some { block := x1.heap.size, off := 0 }) := hout (.tmp 3) rfl
              have eg : ρ (.tmp 47) = .bool true := (hdep ⟨9, .guard⟩ (by simp) rfl 47 rfl).1
              have yg : y 9 = some true := (hdep ⟨9, .guard⟩ (by simp) rfl 47 rfl).2.trans (by rw [eg]; rfl)
              have ocn : ∀ v, ρ (.const v) = v := fun v => hout (.const v) rfl
              have ofn : ∀ f, ρ (.func f) = .func (.func f) #[] #[] := fun f => hout (.func f) rfl
              clear hdep hout
              refine .inl ⟨?_, ?_⟩
              · show (y 9 == some true) = true
                rw [yg]; rfl
              obtain ⟨_, cc0, cc1, cc2, cc3, cc4, _⟩ := (P1.out.later hBx).box
              show GivesP _ _ _ (fun v _ => v = .agg #[.bool a1, .slice p1 n1 cap1, .bool c1, .int .i64 l1, .int .i64 u1]) _
              refine GivesP.val (.agg #[.bool a1, .slice p1 n1 cap1, .bool c1, .int .i64 l1, .int .i64 u1]) rfl ?_
              go_simp
            rcases i with _ | i
            · obtain rfl := Option.some.inj ho
              have e13 : ρ (.tmp 51) = .agg #[.bool a2, .slice p2 n2 cap2, .bool c2, .int .i64 l2, .int .i64 u2] := (hdep ⟨13, .data⟩ (by simp) rfl 51 rfl).1
              have e14 : ρ (.tmp 52) = .agg #[.bool a1, .slice p1 n1 cap1, .bool c1, .int .i64 l1, .int .i64 u1] := (hdep ⟨14, .data⟩ (by simp) rfl 52 rfl).1
              have eg : ρ (.tmp 47) = .bool true := (hdep ⟨9, .guard⟩ (by simp) rfl 47 rfl).1
              have yg : y 9 = some true := (hdep ⟨9, .guard⟩ (by simp) rfl 47 rfl).2.trans (by rw [eg]; rfl)
              have ocn : ∀ v, ρ (.const v) = v := fun v => hout (.const v) rfl
              have ofn : ∀ f, ρ (.func f) = .func (.func f) #[] #[] := fun f => hout (.func f) rfl
              clear hdep hout
              refine .inl ⟨?_, ?_⟩
              · show (y 9 == some true) = true
                rw [yg]; rfl
              show GivesP _ _ _ (fun v _ => v = .bool true) _
              refine GivesP.call ((stIn_impl x true true _ _ _ _ _ _ L2 _ _ _ _ _ L1 _ _ _ (P2.out.later hBx).row (P1.out.later hBx).row).mono fun e w9 h9 => ⟨_, h9.1, by rw [HF.out.2.2.2], h9.2⟩) ?_
              go_simp
            rcases i with _ | i
            · obtain rfl := Option.some.inj ho
              have e12 : ρ (.tmp 50) = .bool true := (hdep ⟨12, .data⟩ (by simp) rfl 50 rfl).1
              have e15 : ρ (.tmp 53) = .bool true := (hdep ⟨15, .data⟩ (by simp) rfl 53 rfl).1
              have eg : ρ (.tmp 47) = .bool true := (hdep ⟨9, .guard⟩ (by simp) rfl 47 rfl).1
              have yg : y 9 = some true := (hdep ⟨9, .guard⟩ (by simp) rfl 47 rfl).2.trans (by rw [eg]; rfl)
              have ocn : ∀ v, ρ (.const v) = v := fun v => hout (.const v) rfl
              have ofn : ∀ f, ρ (.func f) = .func (.func f) #[] #[] := fun f => hout (.func f) rfl
              clear hdep hout
              refine .inl ⟨?_, ?_⟩
              · show (y 9 == some true) = true
                rw [yg]; rfl
              show GivesP _ _ _ (fun v _ => v = .bool true) _
              refine GivesP.val (.bool true) rfl ?_
              go_simp
            rcases i with _ | i
            · obtain rfl := Option.some.inj ho
              have e9 : ρ (.tmp 47) = .bool true := (hdep ⟨9, .data⟩ (by simp) rfl 47 rfl).1
              have e16 : ρ (.tmp 54) = .bool true := (hdep ⟨16, .data⟩ (by simp) rfl 54 rfl).1
              have ocn : ∀ v, ρ (.const v) = v := fun v => hout (.const v) rfl
              have ofn : ∀ f, ρ (.func f) = .func (.func f) #[] #[] := fun f => hout (.func f) rfl
              clear hdep hout
              refine .inl ⟨?_, ?_⟩
              · rfl
              show GivesP _ _ _ (fun v _ => v = .bool true) _
              refine GivesP.val (.bool true) rfl ?_
              go_simp
            rcases i with _ | i
            · obtain rfl := Option.some.inj ho
              have e17 : ρ (.tmp 55) = .bool true := (hdep ⟨17, .data⟩ (by simp) rfl 55 rfl).1
              have ocn : ∀ v, ρ (.const v) = v := fun v => hout (.const v) rfl
              have ofn : ∀ f, ρ (.func f) = .func (.func f) #[] #[] := fun f => hout (.func f) rfl
              clear hdep hout
              refine .inl ⟨?_, ?_⟩
              · rfl
              show GivesP _ _ _ (fun v _ => v = .bool true) _
              refine GivesP.val (.bool true) rfl ?_
              go_simp
            cases ho
          case fin =>
            intro V x hBx hV
            have ev : V 18 = .bool true := hV 18 (by simp)
            clear hV
            go_wp2_with fail
            go_meet
            exact ⟨ev, HB.out.trans (hBx.mono HB.out.size), P1.out.later hBx, P2.out.later hBx, P5.out.later hBx⟩
        case rest =>
        rename World => z7
        clear HB P1 P2 P5
        obtain ⟨rfl, HB, P1, P2, P5⟩ := hcut
        go_wp2_with fail
        go_ret
        exact ⟨rfl, HB.out⟩
end Go.Proofs.Ytdomalclpjijaaa
