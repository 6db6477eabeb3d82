/-
  What an instruction may call: the contract of the program's FlowCalls.
-/
import Derived.Test.YtifpijindmdboaaFCalI
namespace Go.Proofs.Ytifpijindmdboaa
open Go.RowKit
set_option linter.unusedVariables false
set_option linter.unusedSimpArgs false

theorem insOkF_call {i : I4} {q p : Int} (h : insOkF i q p = true) (h8 : i.1 = 8) : 0 ≤ i.2.2.2 ∧ i.2.2.2 ≤ 2 := by
  obtain ⟨K, a, b, c⟩ := i
  simp only at h8
  subst h8
  simp [insOkF, inI] at h
  dsimp only
  omega
theorem callsFrom_any (x0 : World) (P : List (List I4)) (n m : Nat) (hn : n < P.length) (hm : m ≤ (P.getD n []).length) (hok : progOkF P = true) (z : Bool) (C E : Nat) (a : Bool) (s : Value) (L : List Sp) (c : Bool) (l u : Int) (hs : SpsAt z x0 C E s L) (hL : L.length = 3) :
    Calls Try.prog 59 #[insF (P.getD n []) m, .agg #[.bool a, s, .bool c, .int .i64 l, .int .i64 u]] x0 fun e y => ∃ v, e = .returned v ∧ IRow 2 true y x0.heap.size y.heap.size v (callK (P.getD n []) m L).length (callN (callB (P.getD n []) m) (callK (P.getD n []) m L)) ∧ Below x0.heap.size x0 y := by
  by_cases he : m = (P.getD n []).length
  · rw [show insF (P.getD n []) m = .nilIface by simp only [insF]; rw [if_pos he], show callK (P.getD n []) m L = [] by simp only [callK]; rw [if_pos he]]
    refine (callsFrom_nil x0 a s c l u).mono ?_
    rintro e y ⟨v, rfl, h1, h2⟩
    exact ⟨v, rfl, h1 _, h2⟩
  · have hlt : m < (P.getD n []).length := by omega
    have hins := (progOkF_code hok hn).2 m hlt
    have hk := insOkF_kind hins
    rw [show insF (P.getD n []) m = ifcF ((P.getD n []).getD m i0) by simp only [insF]; rw [if_neg he]]
    have := callsFrom_ins x0 ((P.getD n []).getD m i0) hk.1 hk.2.1 (insOkF_call hins) z C E a s L c l u hs hL
    rw [show callK (P.getD n []) m L = (if ((P.getD n []).getD m i0).1 = 8 then kindsAt (L.getD ((P.getD n []).getD m i0).2.2.2.toNat noSp) else []) by simp only [callK]; rw [if_neg he]]
    exact this

/-- the kinds, and the procedure, with which one calls at a place from a state -/
def callsK (P : List (List I4)) (k at_ : Int) (a : Bool) (L : List Sp) (c : Sp) : List Int := if comesF P k at_ a L c = true then callK (P.getD k.toNat []) at_.toNat L else []
def callsB (P : List (List I4)) (k at_ : Int) : Int := callB (P.getD k.toNat []) at_.toNat
theorem callsK_len (P : List (List I4)) (k at_ : Int) (a : Bool) (L : List Sp) (c : Sp) : (callsK P k at_ a L c).length ≤ 3 := by
  unfold callsK
  split
  · exact callK_len _ _ _
  · simp

set_option maxRecDepth 100000 in
set_option maxHeartbeats 4000000 in
theorem flowCalls_impl (x0 : World) (B : Nat) (v : Value) (P : List (List I4)) (h : ProgAt x0 B v P) (k at_ : Int) (z : Bool) (C E : Nat) (a : Bool) (s : Value) (L : List Sp) (c : Bool) (l u : Int) (hs : SpsAt z x0 C E s L) :
    Calls Try.prog 26 #[v, .int .i64 k, .int .i64 at_, .agg #[.bool a, s, .bool c, .int .i64 l, .int .i64 u]] x0 fun e y => ∃ r, e = .returned r ∧ IRow 2 true y x0.heap.size y.heap.size r (callsK P k at_ a L (c, l, u)).length (callN (callsB P k at_) (callsK P k at_ a L (c, l, u))) ∧ Below x0.heap.size x0 y := by
  obtain ⟨p, cap, rfl, hm⟩ := h.shape
  obtain ⟨ps, cs, rfl⟩ := hs.shape
  have H : Hid (ProgAt x0 B (.slice p P.length cap) P) := h
  have HS : Hid (SpsAt z x0 C E (.slice ps L.length cs) L) := hs
  clear h hm hs
  go_enter Try.func26, Try.ntmps26
  go_wp2_with fail
  generalize hX : x0.alloc (.cells #[.bool a, .slice ps L.length cs, .bool c, .int .i64 l, .int .i64 u] 36) = X
  have HXB : Hid (Below x0.heap.size x0 X) := by show Below x0.heap.size x0 X; rw [← hX]; exact (Below.refl _ _).alloc (Nat.le_refl _) _
  have HB : Hid (Bx5 X x0.heap.size (.bool a) (.slice ps L.length cs) (.bool c) (.int .i64 l) (.int .i64 u)) := by show Bx5 _ _ _ _ _ _ _; rw [← hX]; exact Bx5.new _ _ _ _ _ _ _
  clear hX
  refine (comesBy_impl X B _ P (H.out.later HXB.out) k at_ z C E a _ L c l u (HS.out.later HXB.out)).mono ?_
  rintro e y0 ⟨rfl, hb⟩
  have HY : Hid (Below x0.heap.size x0 y0) := HXB.out.trans (hb.mono HXB.out.size)
  have HBY : Hid (Bx5 y0 x0.heap.size (.bool a) (.slice ps L.length cs) (.bool c) (.int .i64 l) (.int .i64 u)) := HB.out.later hb
  clear hb HXB HB
  cases hc : comesF P k at_ a L (c, l, u)
  · have hout : callsK P k at_ a L (c, l, u) = [] := by unfold callsK; rw [hc]; rfl
    go_wp2_with fail
    go_ret
    exact ⟨_, rfl, by rw [hout]; exact IRow.nil, HY.out⟩
  · obtain ⟨n, m, rfl, rfl, hn, hm, hok, rfl, hst, hL⟩ := comesF_at hc
    have hout : Hid (callsK P n m true L (c, l, u) = callK (P.getD n []) m L) := by show callsK _ _ _ _ _ _ = _; unfold callsK; rw [if_pos hc]; rfl
    have houtb : Hid (callsB P n m = callB (P.getD n []) m) := rfl
    clear hc hst
    have HG : Hid (∀ z' : World, Below y0.heap.size y0 z' → Calls Try.prog 59 #[insF (P.getD n []) m, .agg #[.bool true, .slice ps L.length cs, .bool c, .int .i64 l, .int .i64 u]] z' fun e z2 => ∃ r, e = .returned r ∧ IRow 2 true z2 z'.heap.size z2.heap.size r (callK (P.getD n []) m L).length (callN (callB (P.getD n []) m) (callK (P.getD n []) m L)) ∧ Below z'.heap.size z' z2) :=
      fun zz hz => callsFrom_any zz P n m hn hm hok z C E true _ L c l u ((HS.out.later HY.out).later hz) hL
    clear hL
    generalize callK (P.getD n []) m L = S at HG hout
    generalize callB (P.getD n []) m = SB at HG houtb
    go_wp2_with fail
    refine wp_region_preds (by kernel_rfl) (by kernel_rfl) (by kernel_rfl) (by kernel_rfl) (fun j => [(fun v _ => v = .slice p P.length cap), (fun v _ => v = .int .i64 n), (fun v _ => v = .int .i64 m), (fun v _ => v = insF (P.getD n []) m), (fun v _ => v = .agg #[.bool true, .slice ps L.length cs, .bool c, .int .i64 l, .int .i64 u]), (fun v x => IRow 2 true x y0.heap.size x.heap.size v S.length (callN SB S)), (fun v x => IRow 2 true x y0.heap.size x.heap.size v S.length (callN SB S))].getD j (fun _ _ => True)) ?stable y0 ((Below.refl _ _).drew) ?step (fun V => ⟨List.toArray ((.slice p P.length cap) :: (.int .i64 n) :: (.int .i64 m) :: (.agg #[.bool true, .slice ps L.length cs, .bool c, .int .i64 l, .int .i64 u]) :: (undef) :: (undef) :: (undef) :: (.pointer (some ⟨x0.heap.size, 0, none⟩)) :: (V 6) :: (.slice p P.length cap) :: (.int .i64 n) :: (.int .i64 m) :: (.agg #[.bool true, .slice ps L.length cs, .bool c, .int .i64 l, .int .i64 u]) :: (.bool true) :: (.bool false) :: (V 0) :: (V 1) :: (V 2) :: (V 3) :: (V 4) :: (V 5) :: []), []⟩) (fun V => by kernel_rfl) ?last
    case stable =>
      intro i v x y ht hb
      rcases i with _ | i
      · exact ht
      rcases i with _ | i
      · exact ht
      rcases i with _ | i
      · exact ht
      rcases i with _ | i
      · exact ht
      rcases i with _ | i
      · exact ht
      rcases i with _ | i
      · exact ((IRow.later ht hb).wide (Nat.le_refl _) hb.size (Nat.le_refl _))
      rcases i with _ | i
      · exact ((IRow.later ht hb).wide (Nat.le_refl _) hb.size (Nat.le_refl _))
      exact trivial
    case step =>
      intro i o ho ρ y x hBx hdep hout
      rcases i with _ | i
      · obtain rfl := Option.some.inj ho
        have o0 : ρ (.tmp 0) = .slice p P.length cap := hout (.tmp 0) rfl
        have ocn : ∀ v, ρ (.const v) = v := fun v => hout (.const v) rfl
        have ofn : ∀ f, ρ (.func f) = .func (.func f) #[] #[] := fun f => hout (.func f) rfl
        clear hdep hout
        refine .inl ⟨rfl, ?_⟩
        show GivesP _ _ _ (fun v _ => v = .slice p P.length cap) _
        refine GivesP.val (.slice p P.length cap) rfl ?_
        go_simp
      rcases i with _ | i
      · obtain rfl := Option.some.inj ho
        have o1 : ρ (.tmp 1) = .int .i64 n := hout (.tmp 1) rfl
        have ocn : ∀ v, ρ (.const v) = v := fun v => hout (.const v) rfl
        have ofn : ∀ f, ρ (.func f) = .func (.func f) #[] #[] := fun f => hout (.func f) rfl
        clear hdep hout
        refine .inl ⟨rfl, ?_⟩
        show GivesP _ _ _ (fun v _ => v = .int .i64 n) _
        refine GivesP.val (.int .i64 n) rfl ?_
        go_simp
      rcases i with _ | i
      · obtain rfl := Option.some.inj ho
        have o2 : ρ (.tmp 2) = .int .i64 m := hout (.tmp 2) rfl
        have ocn : ∀ v, ρ (.const v) = v := fun v => hout (.const v) rfl
        have ofn : ∀ f, ρ (.func f) = .func (.func f) #[] #[] := fun f => hout (.func f) rfl
        clear hdep hout
        refine .inl ⟨rfl, ?_⟩
        show GivesP _ _ _ (fun v _ => v = .int .i64 m) _
        refine GivesP.val (.int .i64 m) rfl ?_
        go_simp
      rcases i with _ | i
      · obtain rfl := Option.some.inj ho
        have e0 : ρ (.tmp 15) = .slice p P.length cap := (hdep ⟨0, .data⟩ (by simp) rfl 15 rfl).1
        have e1 : ρ (.tmp 16) = .int .i64 n := (hdep ⟨1, .data⟩ (by simp) rfl 16 rfl).1
        have e2 : ρ (.tmp 17) = .int .i64 m := (hdep ⟨2, .data⟩ (by simp) rfl 17 rfl).1
        have ocn : ∀ v, ρ (.const v) = v := fun v => hout (.const v) rfl
        have ofn : ∀ f, ρ (.func f) = .func (.func f) #[] #[] := fun f => hout (.func f) rfl
        clear hdep hout
        refine .inl ⟨rfl, ?_⟩
        show GivesP _ _ _ (fun v _ => v = insF (P.getD n []) m) _
        refine GivesP.call ((insAt_impl x B _ P ((H.out.later HY.out).later hBx) n m hn (progOkF_len hok).2 hm (progOkF_code hok hn).1).mono fun e w9 h9 => ⟨_, h9.1, rfl, h9.2⟩) ?_
        go_simp
      rcases i with _ | i
      · obtain rfl := Option.some.inj ho
        have o7 : ρ (.tmp 7) = .pointer (some ⟨x0.heap.size, 0, none⟩) := hout (.tmp 7) rfl
        have ocn : ∀ v, ρ (.const v) = v := fun v => hout (.const v) rfl
        have ofn : ∀ f, ρ (.func f) = .func (.func f) #[] #[] := fun f => hout (.func f) rfl
        clear hdep hout
        refine .inl ⟨rfl, ?_⟩
        obtain ⟨_, b0, b1, b2, b3, b4, _⟩ := HBY.out.later hBx
        show GivesP _ _ _ (fun v _ => v = .agg #[.bool true, .slice ps L.length cs, .bool c, .int .i64 l, .int .i64 u]) _
        refine GivesP.val (.agg #[.bool true, .slice ps L.length cs, .bool c, .int .i64 l, .int .i64 u]) rfl ?_
        go_simp
      rcases i with _ | i
      · obtain rfl := Option.some.inj ho
        have e3 : ρ (.tmp 18) = insF (P.getD n []) m := (hdep ⟨3, .data⟩ (by simp) rfl 18 rfl).1
        have e4 : ρ (.tmp 19) = .agg #[.bool true, .slice ps L.length cs, .bool c, .int .i64 l, .int .i64 u] := (hdep ⟨4, .data⟩ (by simp) rfl 19 rfl).1
        have ocn : ∀ v, ρ (.const v) = v := fun v => hout (.const v) rfl
        have ofn : ∀ f, ρ (.func f) = .func (.func f) #[] #[] := fun f => hout (.func f) rfl
        clear hdep hout
        refine .inl ⟨rfl, ?_⟩
        show GivesP _ _ _ (fun v x => IRow 2 true x y0.heap.size x.heap.size v S.length (callN SB S)) _
        refine GivesP.call ((HG.out x hBx).mono fun e w9 h9 => ⟨h9.choose, h9.choose_spec.1, h9.choose_spec.2.1.wide hBx.size (Nat.le_refl _) (Nat.le_refl _), h9.choose_spec.2.2⟩) ?_
        go_simp
      rcases i with _ | i
      · obtain rfl := Option.some.inj ho
        have t5 := (hdep ⟨5, .data⟩ (by simp) rfl 20 rfl).1
        have t5 : (fun v x => IRow 2 true x y0.heap.size x.heap.size v S.length (callN SB S)) (ρ (.tmp 20)) x := t5
        obtain t5 := t5
        have ocn : ∀ v, ρ (.const v) = v := fun v => hout (.const v) rfl
        have ofn : ∀ f, ρ (.func f) = .func (.func f) #[] #[] := fun f => hout (.func f) rfl
        clear hdep hout
        refine .inl ⟨rfl, ?_⟩
        show GivesP _ _ _ (fun v x => IRow 2 true x y0.heap.size x.heap.size v S.length (callN SB S)) _
        exact GivesP.val _ t5 (by go_simp)
      cases ho
    case last =>
      intro V x hBx hV
      have t6 := hV 6 (by simp)
      have t6 : (fun v x => IRow 2 true x y0.heap.size x.heap.size v S.length (callN SB S)) (V 6) x := t6
      obtain t6 := t6
      clear hV
      have hxB := HY.out.trans (hBx.mono HY.out.size)
      have hfin : IRow 2 true x x0.heap.size x.heap.size (V 6) S.length (callN SB S) := t6.wide HY.out.size (Nat.le_refl _) (Nat.le_refl _)
      go_wp2_with fail
      go_ret
      exact ⟨_, rfl, by rw [hout.out, houtb.out]; exact hfin, hxB⟩

end Go.Proofs.Ytifpijindmdboaa
