/-
  The contract of the program's FlowSites.
-/
import Derived.Test.YtpogahhfdneagaaFSf
namespace Go.Proofs.Ytpogahhfdneagaa
open Go.RowKit
set_option linter.unusedVariables false
set_option linter.unusedSimpArgs false

/-- what may be wrong at a place, from a state -/
def sitesF (P : List (List I4)) (k at_ : Int) (a : Bool) (L : List Sp) (c : Sp) : Option T3 := if comesF P k at_ a L c = true then siteF (P.getD k.toNat []) k.toNat at_.toNat L else none

set_option maxRecDepth 100000 in
set_option maxHeartbeats 4000000 in
theorem flowSites_impl (x0 : World) (B : Nat) (v : Value) (P : List (List I4)) (h : ProgAt x0 B v P) (k at_ : Int) (z : Bool) (C E : Nat) (a : Bool) (s : Value) (L : List Sp) (c : Bool) (l u : Int) (hs : SpsAt z x0 C E s L) :
    Calls Try.prog 19 #[v, .int .i64 k, .int .i64 at_, .agg #[.bool a, s, .bool c, .int .i64 l, .int .i64 u]] x0 fun e y => ∃ r, e = .returned r ∧ SitesAt y x0.heap.size y.heap.size r (sitesF P k at_ a L (c, l, u)) ∧ Below x0.heap.size x0 y := by
  obtain ⟨p, cap, rfl, hm⟩ := h.shape
  obtain ⟨ps, cs, rfl⟩ := hs.shape
  have H : Hid (ProgAt x0 B (.slice p P.length cap) P) := h
  have HS : Hid (SpsAt z x0 C E (.slice ps L.length cs) L) := hs
  clear h hm hs
  go_enter Try.func19, Try.ntmps19
  go_wp2_with fail
  generalize hX : x0.alloc (.cells #[.bool a, .slice ps L.length cs, .bool c, .int .i64 l, .int .i64 u] 36) = X
  have HXB : Hid (Below x0.heap.size x0 X) := by show Below x0.heap.size x0 X; rw [← hX]; exact (Below.refl _ _).alloc (Nat.le_refl _) _
  have HB : Hid (Bx5 X x0.heap.size (.bool a) (.slice ps L.length cs) (.bool c) (.int .i64 l) (.int .i64 u)) := by show Bx5 _ _ _ _ _ _ _; rw [← hX]; exact Bx5.new _ _ _ _ _ _ _
  clear hX
  refine (comesBy_impl X B _ P (H.out.later HXB.out) k at_ z C E a _ L c l u (HS.out.later HXB.out)).mono ?_
  rintro e y0 ⟨rfl, hb⟩
  have HY : Hid (Below x0.heap.size x0 y0) := HXB.out.trans (hb.mono HXB.out.size)
  have HBY : Hid (Bx5 y0 x0.heap.size (.bool a) (.slice ps L.length cs) (.bool c) (.int .i64 l) (.int .i64 u)) := HB.out.later hb
  clear hb HXB HB
  cases hc : comesF P k at_ a L (c, l, u)
  · go_wp2_with fail
    go_ret
    exact ⟨_, rfl, by simp only [sitesF, hc]; exact ⟨_, _, rfl⟩, HY.out⟩
  · obtain ⟨n, m, rfl, rfl, hn, hm, hok, rfl, hst, hL⟩ := comesF_at hc
    have hout : Hid (sitesF P n m true L (c, l, u) = siteF (P.getD n []) n m L) := by
      show sitesF P n m true L (c, l, u) = _
      unfold sitesF
      rw [if_pos hc]
      rfl
    clear hc hst
    have HG : Hid (∀ z' : World, Below y0.heap.size y0 z' → Calls Try.prog 54 #[insF (P.getD n []) m, .int .i64 n, .int .i64 m, .agg #[.bool true, .slice ps L.length cs, .bool c, .int .i64 l, .int .i64 u]] z' fun e z2 => ∃ r, e = .returned r ∧ SitesAt z2 z'.heap.size z2.heap.size r (siteF (P.getD n []) n m L) ∧ Below z'.heap.size z' z2) :=
      fun zz hz => sitesFrom_any zz P n m hn hm hok z C E true _ L c l u ((HS.out.later HY.out).later hz) hL
    clear hL
    generalize siteF (P.getD n []) n m L = S at hout HG
    go_wp2_with fail
    refine wp_region_preds (by kernel_rfl) (by kernel_rfl) (by kernel_rfl) (by kernel_rfl) (fun j => [(fun v _ => v = .slice p P.length cap), (fun v _ => v = .int .i64 n), (fun v _ => v = .int .i64 m), (fun v _ => v = insF (P.getD n []) m), (fun v _ => v = .int .i64 n), (fun v _ => v = .int .i64 m), (fun v _ => v = .agg #[.bool true, .slice ps L.length cs, .bool c, .int .i64 l, .int .i64 u]), (fun v x => SitesAt x y0.heap.size x.heap.size v S), (fun v x => SitesAt x y0.heap.size x.heap.size v S)].getD j (fun _ _ => True)) ?stable y0 ((Below.refl _ _).drew) ?step (fun V => ⟨List.toArray ((.slice p P.length cap) :: (.int .i64 n) :: (.int .i64 m) :: (.agg #[.bool true, .slice ps L.length cs, .bool c, .int .i64 l, .int .i64 u]) :: (undef) :: (undef) :: (undef) :: (.pointer (some ⟨x0.heap.size, 0, none⟩)) :: (V 8) :: (.slice p P.length cap) :: (.int .i64 n) :: (.int .i64 m) :: (.agg #[.bool true, .slice ps L.length cs, .bool c, .int .i64 l, .int .i64 u]) :: (.bool true) :: (.bool false) :: (V 0) :: (V 1) :: (V 2) :: (V 3) :: (V 4) :: (V 5) :: (V 6) :: (V 7) :: []), []⟩) (fun V => by kernel_rfl) ?last
    case stable =>
      intro i v x y ht hb
      rcases i with _ | i
      · exact ht
      rcases i with _ | i
      · exact ht
      rcases i with _ | i
      · exact ht
      rcases i with _ | i
      · exact ht
      rcases i with _ | i
      · exact ht
      rcases i with _ | i
      · exact ht
      rcases i with _ | i
      · exact ht
      rcases i with _ | i
      · exact ((SitesAt.later ht hb).wide (Nat.le_refl _) hb.size (Nat.le_refl _))
      rcases i with _ | i
      · exact ((SitesAt.later ht hb).wide (Nat.le_refl _) hb.size (Nat.le_refl _))
      exact trivial
    case step =>
      intro i o ho ρ y x hBx hdep hout
      rcases i with _ | i
      · obtain rfl := Option.some.inj ho
        have o0 : ρ (.tmp 0) = .slice p P.length cap := hout (.tmp 0) rfl
        have ocn : ∀ v, ρ (.const v) = v := fun v => hout (.const v) rfl
        have ofn : ∀ f, ρ (.func f) = .func (.func f) #[] #[] := fun f => hout (.func f) rfl
        clear hdep hout
        refine .inl ⟨rfl, ?_⟩
        show GivesP _ _ _ (fun v _ => v = .slice p P.length cap) _
        refine GivesP.val (.slice p P.length cap) rfl ?_
        go_simp
      rcases i with _ | i
      · obtain rfl := Option.some.inj ho
        have o1 : ρ (.tmp 1) = .int .i64 n := hout (.tmp 1) rfl
        have ocn : ∀ v, ρ (.const v) = v := fun v => hout (.const v) rfl
        have ofn : ∀ f, ρ (.func f) = .func (.func f) #[] #[] := fun f => hout (.func f) rfl
        clear hdep hout
        refine .inl ⟨rfl, ?_⟩
        show GivesP _ _ _ (fun v _ => v = .int .i64 n) _
        refine GivesP.val (.int .i64 n) rfl ?_
        go_simp
      rcases i with _ | i
      · obtain rfl := Option.some.inj ho
        have o2 : ρ (.tmp 2) = .int .i64 m := hout (.tmp 2) rfl
        have ocn : ∀ v, ρ (.const v) = v := fun v => hout (.const v) rfl
        have ofn : ∀ f, ρ (.func f) = .func (.func f) #[] #[] := fun f => hout (.func f) rfl
        clear hdep hout
        refine .inl ⟨rfl, ?_⟩
        show GivesP _ _ _ (fun v _ => v = .int .i64 m) _
        refine GivesP.val (.int .i64 m) rfl ?_
        go_simp
      rcases i with _ | i
      · obtain rfl := Option.some.inj ho
        have e0 : ρ (.tmp 15) = .slice p P.length cap := (hdep ⟨0, .data⟩ (by simp) rfl 15 rfl).1
        have e1 : ρ (.tmp 16) = .int .i64 n := (hdep ⟨1, .data⟩ (by simp) rfl 16 rfl).1
        have e2 : ρ (.tmp 17) = .int .i64 m := (hdep ⟨2, .data⟩ (by simp) rfl 17 rfl).1
        have ocn : ∀ v, ρ (.const v) = v := fun v => hout (.const v) rfl
        have ofn : ∀ f, ρ (.func f) = .func (.func f) #[] #[] := fun f => hout (.func f) rfl
        clear hdep hout
        refine .inl ⟨rfl, ?_⟩
        show GivesP _ _ _ (fun v _ => v = insF (P.getD n []) m) _
        refine GivesP.call ((insAt_impl x B _ P ((H.out.later HY.out).later hBx) n m hn (progOkF_len hok).2 hm (progOkF_code hok hn).1).mono fun e w9 h9 => ⟨_, h9.1, rfl, h9.2⟩) ?_
        go_simp
      rcases i with _ | i
      · obtain rfl := Option.some.inj ho
        have o1 : ρ (.tmp 1) = .int .i64 n := hout (.tmp 1) rfl
        have ocn : ∀ v, ρ (.const v) = v := fun v => hout (.const v) rfl
        have ofn : ∀ f, ρ (.func f) = .func (.func f) #[] #[] := fun f => hout (.func f) rfl
        clear hdep hout
        refine .inl ⟨rfl, ?_⟩
        show GivesP _ _ _ (fun v _ => v = .int .i64 n) _
        refine GivesP.val (.int .i64 n) rfl ?_
        go_simp
      rcases i with _ | i
      · obtain rfl := Option.some.inj ho
        have o2 : ρ (.tmp 2) = .int .i64 m := hout (.tmp 2) rfl
        have ocn : ∀ v, ρ (.const v) = v := fun v => hout (.const v) rfl
        have ofn : ∀ f, ρ (.func f) = .func (.func f) #[] #[] := fun f => hout (.func f) rfl
        clear hdep hout
        refine .inl ⟨rfl, ?_⟩
        show GivesP _ _ _ (fun v _ => v = .int .i64 m) _
        refine GivesP.val (.int .i64 m) rfl ?_
        go_simp
      rcases i with _ | i
      · obtain rfl := Option.some.inj ho
        have o7 : ρ (.tmp 7) = .pointer (some ⟨x0.heap.size, 0, none⟩) := hout (.tmp 7) rfl
        have ocn : ∀ v, ρ (.const v) = v := fun v => hout (.const v) rfl
        have ofn : ∀ f, ρ (.func f) = .func (.func f) #[] #[] := fun f => hout (.func f) rfl
        clear hdep hout
        refine .inl ⟨rfl, ?_⟩
        obtain ⟨_, b0, b1, b2, b3, b4, _⟩ := HBY.out.later hBx
        show GivesP _ _ _ (fun v _ => v = .agg #[.bool true, .slice ps L.length cs, .bool c, .int .i64 l, .int .i64 u]) _
        refine GivesP.val (.agg #[.bool true, .slice ps L.length cs, .bool c, .int .i64 l, .int .i64 u]) rfl ?_
        go_simp
      rcases i with _ | i
      · obtain rfl := Option.some.inj ho
        have e3 : ρ (.tmp 18) = insF (P.getD n []) m := (hdep ⟨3, .data⟩ (by simp) rfl 18 rfl).1
        have e4 : ρ (.tmp 19) = .int .i64 n := (hdep ⟨4, .data⟩ (by simp) rfl 19 rfl).1
        have e5 : ρ (.tmp 20) = .int .i64 m := (hdep ⟨5, .data⟩ (by simp) rfl 20 rfl).1
        have e6 : ρ (.tmp 21) = .agg #[.bool true, .slice ps L.length cs, .bool c, .int .i64 l, .int .i64 u] := (hdep ⟨6, .data⟩ (by simp) rfl 21 rfl).1
        have ocn : ∀ v, ρ (.const v) = v := fun v => hout (.const v) rfl
        have ofn : ∀ f, ρ (.func f) = .func (.func f) #[] #[] := fun f => hout (.func f) rfl
        clear hdep hout
        refine .inl ⟨rfl, ?_⟩
        show GivesP _ _ _ (fun v x => SitesAt x y0.heap.size x.heap.size v S) _
        refine GivesP.call ((HG.out x hBx).mono fun e w9 h9 => ⟨h9.choose, h9.choose_spec.1, h9.choose_spec.2.1.wide hBx.size (Nat.le_refl _) (Nat.le_refl _), h9.choose_spec.2.2⟩) ?_
        go_simp
      rcases i with _ | i
      · obtain rfl := Option.some.inj ho
        have t7 := (hdep ⟨7, .data⟩ (by simp) rfl 22 rfl).1
        have t7 : (fun v x => SitesAt x y0.heap.size x.heap.size v S) (ρ (.tmp 22)) x := t7
        obtain t7 := t7
        have ocn : ∀ v, ρ (.const v) = v := fun v => hout (.const v) rfl
        have ofn : ∀ f, ρ (.func f) = .func (.func f) #[] #[] := fun f => hout (.func f) rfl
        clear hdep hout
        refine .inl ⟨rfl, ?_⟩
        show GivesP _ _ _ (fun v x => SitesAt x y0.heap.size x.heap.size v S) _
        exact GivesP.val _ t7 (by go_simp)
      cases ho
    case last =>
      intro V x hBx hV
      have t8 := hV 8 (by simp)
      have t8 : (fun v x => SitesAt x y0.heap.size x.heap.size v S) (V 8) x := t8
      obtain t8 := t8
      clear hV
      have hxB := HY.out.trans (hBx.mono HY.out.size)
      have hfin : SitesAt x x0.heap.size x.heap.size (V 8) S := t8.wide HY.out.size (Nat.le_refl _) (Nat.le_refl _)
      go_wp2_with fail
      go_ret
      exact ⟨_, rfl, by rw [hout.out]; exact hfin, hxB⟩
end Go.Proofs.Ytpogahhfdneagaa
