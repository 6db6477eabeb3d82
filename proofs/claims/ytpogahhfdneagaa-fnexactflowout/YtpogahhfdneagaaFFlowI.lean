/-
  The contract of the program's FlowOut.
-/
import Derived.Test.YtpogahhfdneagaaFFlow
namespace Go.Proofs.Ytpogahhfdneagaa
open Go.RowKit
set_option linter.unusedVariables false
set_option linter.unusedSimpArgs false

set_option maxRecDepth 100000 in
set_option maxHeartbeats 4000000 in
theorem flowOut_impl (x0 : World) (B : Nat) (v : Value) (P : List (List I4)) (h : ProgAt x0 B v P) (k at_ : Int) (z : Bool) (C E : Nat) (a : Bool) (s : Value) (L : List Sp) (c : Bool) (l u : Int) (hs : SpsAt z x0 C E s L) :
    Calls Try.prog 14 #[v, .int .i64 k, .int .i64 at_, .agg #[.bool a, s, .bool c, .int .i64 l, .int .i64 u]] x0 fun e y => e = .returned (aggS (outFlow P k at_ a L (c, l, u))) ∧ Below x0.heap.size x0 y := by
  obtain ⟨p, cap, rfl, hm⟩ := h.shape
  obtain ⟨ps, cs, rfl⟩ := hs.shape
  have H : Hid (ProgAt x0 B (.slice p P.length cap) P) := h
  have HS : Hid (SpsAt z x0 C E (.slice ps L.length cs) L) := hs
  clear h hm hs
  go_enter Try.func14, Try.ntmps14
  go_wp2_with fail
  generalize hX : (x0.alloc (.cells #[.bool a, .slice ps L.length cs, .bool c, .int .i64 l, .int .i64 u] 36)).alloc (.cells #[.bool false, .int .i64 0, .int .i64 0] 30) = X
  have HXB : Hid (Below x0.heap.size x0 X) := by show Below x0.heap.size x0 X; rw [← hX]; go_grown
  have HB : Hid (Bx5 X x0.heap.size (.bool a) (.slice ps L.length cs) (.bool c) (.int .i64 l) (.int .i64 u)) := by show Bx5 _ _ _ _ _ _ _; rw [← hX]; exact (Bx5.new _ _ _ _ _ _ _).alloc _
  have HC : Hid (Sf3 X (x0.heap.size + 1) noSp) := by show Sf3 _ _ _; rw [← hX]; exact ⟨by simp, by simp [go_sem, noSp], by simp [go_sem, noSp], by simp [go_sem, noSp], by simp [go_sem], by simp [go_sem], by simp [go_sem]⟩
  clear hX
  have c' := HB.out
  obtain ⟨_, b0, b1, b2, b3, b4, _⟩ := c'
  refine (comesBy_impl X B _ P (H.out.later HXB.out) k at_ z C E a _ L c l u (HS.out.later HXB.out)).mono ?_
  rintro e y ⟨rfl, hb⟩
  have HY : Hid (Below x0.heap.size x0 y) := HXB.out.trans (hb.mono HXB.out.size)
  have HBY : Hid (Bx5 y x0.heap.size (.bool a) (.slice ps L.length cs) (.bool c) (.int .i64 l) (.int .i64 u)) := HB.out.later hb
  have HCY : Hid (Sf3 y (x0.heap.size + 1) noSp) := HC.out.later hb
  clear hb HXB HB HC b0 b1 b2 b3 b4
  cases hc : comesF P k at_ a L (c, l, u)
  · obtain ⟨n0, c0, c1, c2, f0, f1, f2⟩ := HCY.out
    go_wp2_with fail
    refine bodyPost_ret (v := .agg #[.bool false, .int .i64 0, .int .i64 0]) (by simp [results, Try.results14, go_sem, c0, c1, c2]) rfl ⟨by simp [outFlow, hc, aggS, noSp], ?_⟩
    exact ((HY.out.setCell (by simp) _).setCell (by simp) _).setCell (by simp) _
  · obtain ⟨n, m, rfl, rfl, hn, hm, hok, rfl, hst, hL⟩ := comesF_at hc
    have hout : Hid (outFlow P n m true L (c, l, u) = givesF (P.getD n []) m L) := by
      show outFlow P n m true L (c, l, u) = _
      unfold outFlow
      rw [if_pos hc]
      rfl
    clear hc hst
    have HG : Hid (∀ z' : World, Below y.heap.size y z' → Calls Try.prog 49 #[insF (P.getD n []) m, .agg #[.bool true, .slice ps L.length cs, .bool c, .int .i64 l, .int .i64 u]] z' fun e z2 => e = .returned (aggS (givesF (P.getD n []) m L)) ∧ Below z'.heap.size z' z2) :=
      fun zz hz => outFrom_any zz P n m hn hm hok z C E true _ L c l u ((HS.out.later HY.out).later hz) hL
    clear hL
    generalize givesF (P.getD n []) m L = G at hout HG
    go_wp2_with fail
    refine wp_region_store (by kernel_rfl) (by kernel_rfl) (by kernel_rfl) (by kernel_rfl) 6 (by kernel_rfl) (by kernel_rfl) _ rfl (fun j => [(fun v _ => v = .slice p P.length cap), (fun v _ => v = .int .i64 n), (fun v _ => v = .int .i64 m), (fun v _ => v = insF (P.getD n []) m), (fun v _ => v = .agg #[.bool true, .slice ps L.length cs, .bool c, .int .i64 l, .int .i64 u]), (fun v _ => v = aggS G)].getD j (fun _ _ => True)) ?stable y ((Below.refl _ _).drew) ?step (fun V => ⟨List.toArray ((.slice p P.length cap) :: (.int .i64 n) :: (.int .i64 m) :: (.agg #[.bool true, .slice ps L.length cs, .bool c, .int .i64 l, .int .i64 u]) :: (undef) :: (undef) :: (undef) :: (.pointer (some ⟨x0.heap.size, 0, none⟩)) :: (.pointer (some ⟨x0.heap.size + 1, 0, none⟩)) :: (.slice p P.length cap) :: (.int .i64 n) :: (.int .i64 m) :: (.agg #[.bool true, .slice ps L.length cs, .bool c, .int .i64 l, .int .i64 u]) :: (.bool true) :: (.bool false) :: (undef) :: (V 0) :: (V 1) :: (V 2) :: (V 3) :: (V 4) :: (V 5) :: []), []⟩) (fun V => by kernel_rfl) ?last
    case stable =>
      intro i v x y ht hb
      rcases i with _ | i
      · exact ht
      rcases i with _ | i
      · exact ht
      rcases i with _ | i
      · exact ht
      rcases i with _ | i
      · exact ht
      rcases i with _ | i
      · exact ht
      rcases i with _ | i
      · exact ht
      exact trivial
    case step =>
      intro i o hin ho ρ y x hBx hdep hout
      rcases i with _ | i
      · obtain rfl := Option.some.inj ho
        have o0 : ρ (.tmp 0) = .slice p P.length cap := hout (.tmp 0) rfl
        have ocn : ∀ v, ρ (.const v) = v := fun v => hout (.const v) rfl
        have ofn : ∀ f, ρ (.func f) = .func (.func f) #[] #[] := fun f => hout (.func f) rfl
        clear hdep hout
        refine .inl ⟨rfl, ?_⟩
        show GivesP _ _ _ (fun v _ => v = .slice p P.length cap) _
        refine GivesP.val (.slice p P.length cap) rfl ?_
        go_simp
      rcases i with _ | i
      · obtain rfl := Option.some.inj ho
        have o1 : ρ (.tmp 1) = .int .i64 n := hout (.tmp 1) rfl
        have ocn : ∀ v, ρ (.const v) = v := fun v => hout (.const v) rfl
        have ofn : ∀ f, ρ (.func f) = .func (.func f) #[] #[] := fun f => hout (.func f) rfl
        clear hdep hout
        refine .inl ⟨rfl, ?_⟩
        show GivesP _ _ _ (fun v _ => v = .int .i64 n) _
        refine GivesP.val (.int .i64 n) rfl ?_
        go_simp
      rcases i with _ | i
      · obtain rfl := Option.some.inj ho
        have o2 : ρ (.tmp 2) = .int .i64 m := hout (.tmp 2) rfl
        have ocn : ∀ v, ρ (.const v) = v := fun v => hout (.const v) rfl
        have ofn : ∀ f, ρ (.func f) = .func (.func f) #[] #[] := fun f => hout (.func f) rfl
        clear hdep hout
        refine .inl ⟨rfl, ?_⟩
        show GivesP _ _ _ (fun v _ => v = .int .i64 m) _
        refine GivesP.val (.int .i64 m) rfl ?_
        go_simp
      rcases i with _ | i
      · obtain rfl := Option.some.inj ho
        have e0 : ρ (.tmp 16) = .slice p P.length cap := (hdep ⟨0, .data⟩ (by simp) rfl 16 rfl).1
        have e1 : ρ (.tmp 17) = .int .i64 n := (hdep ⟨1, .data⟩ (by simp) rfl 17 rfl).1
        have e2 : ρ (.tmp 18) = .int .i64 m := (hdep ⟨2, .data⟩ (by simp) rfl 18 rfl).1
        have ocn : ∀ v, ρ (.const v) = v := fun v => hout (.const v) rfl
        have ofn : ∀ f, ρ (.func f) = .func (.func f) #[] #[] := fun f => hout (.func f) rfl
        clear hdep hout
        refine .inl ⟨rfl, ?_⟩
        show GivesP _ _ _ (fun v _ => v = insF (P.getD n []) m) _
        refine GivesP.call ((insAt_impl x B _ P ((H.out.later HY.out).later hBx) n m hn (progOkF_len hok).2 hm (progOkF_code hok hn).1).mono fun e w9 h9 => ⟨_, h9.1, rfl, h9.2⟩) ?_
        go_simp
      rcases i with _ | i
      · obtain rfl := Option.some.inj ho
        have o7 : ρ (.tmp 7) = .pointer (some ⟨x0.heap.size, 0, none⟩) := hout (.tmp 7) rfl
        have ocn : ∀ v, ρ (.const v) = v := fun v => hout (.const v) rfl
        have ofn : ∀ f, ρ (.func f) = .func (.func f) #[] #[] := fun f => hout (.func f) rfl
        clear hdep hout
        refine .inl ⟨rfl, ?_⟩
        obtain ⟨_, b0, b1, b2, b3, b4, _⟩ := HBY.out.later hBx
        show GivesP _ _ _ (fun v _ => v = .agg #[.bool true, .slice ps L.length cs, .bool c, .int .i64 l, .int .i64 u]) _
        refine GivesP.val (.agg #[.bool true, .slice ps L.length cs, .bool c, .int .i64 l, .int .i64 u]) rfl ?_
        go_simp
      rcases i with _ | i
      · obtain rfl := Option.some.inj ho
        have e3 : ρ (.tmp 19) = insF (P.getD n []) m := (hdep ⟨3, .data⟩ (by simp) rfl 19 rfl).1
        have e4 : ρ (.tmp 20) = .agg #[.bool true, .slice ps L.length cs, .bool c, .int .i64 l, .int .i64 u] := (hdep ⟨4, .data⟩ (by simp) rfl 20 rfl).1
        have ocn : ∀ v, ρ (.const v) = v := fun v => hout (.const v) rfl
        have ofn : ∀ f, ρ (.func f) = .func (.func f) #[] #[] := fun f => hout (.func f) rfl
        clear hdep hout
        refine .inl ⟨rfl, ?_⟩
        show GivesP _ _ _ (fun v _ => v = aggS G) _
        refine GivesP.call ((HG.out x hBx).mono fun e w9 h9 => ⟨_, h9.1, rfl, h9.2⟩) ?_
        go_simp
      exact absurd hin (by omega)
    case last =>
      intro V x hBx hV
      have e5 : V 5 = aggS G := hV 5 (by omega)
      clear hV
      obtain ⟨n0, c0, c1, c2, f0, f1, f2⟩ := HCY.out.later hBx
      have hxB := HY.out.trans (hBx.mono HY.out.size)
      refine ⟨setS x (x0.heap.size + 1) G, ?_, ?_⟩
      · unfold aggS at e5
        unfold setS
        go_simp
      · have hS : Sf3 (setS x (x0.heap.size + 1) G) (x0.heap.size + 1) G := (HCY.out.later hBx).set
        have hbS : Below x0.heap.size x0 (setS x (x0.heap.size + 1) G) := below_setS hxB (by omega)
        clear n0 c0 c1 c2 f0 f1 f2 e5 hxB
        generalize setS x (x0.heap.size + 1) G = zz at hS hbS ⊢
        obtain ⟨n0, c0, c1, c2, f0, f1, f2⟩ := hS
        go_wp2_with fail
        refine bodyPost_ret (v := aggS G) (by simp [results, Try.results14, go_sem, c0, c1, c2, aggS]) rfl ⟨by rw [hout.out], hbS⟩
end Go.Proofs.Ytpogahhfdneagaa
