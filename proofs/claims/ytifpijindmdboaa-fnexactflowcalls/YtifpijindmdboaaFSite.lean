/-
  Rows of at most one site: what they read as; the laws' own helpers that compare, mark and find them.
-/
import Derived.Test.YtifpijindmdboaaPMark
import Derived.Test.YtifpijindmdboaaInvQ
namespace Go.Proofs.Ytifpijindmdboaa
open Go.RowKit
set_option linter.unusedVariables false
set_option linter.unusedSimpArgs false

/-- a site: its procedure, its place, its fault -/
abbrev T3 := Int × Int × Int
def aggT (s : T3) : Value := .agg #[.int .i64 s.1, .int .i64 s.2.1, .int .i64 s.2.2]
/-- a box of three numbers -/
structure Si3 (x : World) (g o : Nat) (s : T3) : Prop where
  c0 : x.cell? ⟨g, o, none⟩ = some (.int .i64 s.1)
  c1 : x.cell? ⟨g, o + 1, none⟩ = some (.int .i64 s.2.1)
  c2 : x.cell? ⟨g, o + 2, none⟩ = some (.int .i64 s.2.2)
  f0 : x.frozen? ⟨g, o, none⟩ = false
  f1 : x.frozen? ⟨g, o + 1, none⟩ = false
  f2 : x.frozen? ⟨g, o + 2, none⟩ = false
theorem Si3.later {x y : World} {g o : Nat} {s : T3} (h : Si3 x g o s) (hb : Below x.heap.size x y) (hg : g < x.heap.size) : Si3 y g o s :=
  ⟨(hb.cell (p := ⟨g, _, none⟩) hg).trans h.c0, (hb.cell (p := ⟨g, _, none⟩) hg).trans h.c1, (hb.cell (p := ⟨g, _, none⟩) hg).trans h.c2, (hb.frozen (p := ⟨g, _, none⟩) hg).trans h.f0, (hb.frozen (p := ⟨g, _, none⟩) hg).trans h.f1, (hb.frozen (p := ⟨g, _, none⟩) hg).trans h.f2⟩
/-- a row of at most one site, between the blocks B and E -/
def SitesAt (x : World) (B E : Nat) (v : Value) : Option T3 → Prop
  | none => ∃ p cap, v = .slice p 0 cap
  | some s => ∃ g cap, v = .slice (some ⟨g, 0, none⟩) 1 cap ∧ B ≤ g ∧ g < E ∧ E ≤ x.heap.size ∧ Si3 x g 0 s
theorem SitesAt.later {x y : World} {B E : Nat} {v : Value} {o : Option T3} (h : SitesAt x B E v o) (hb : Below x.heap.size x y) : SitesAt y B E v o := by
  cases o with
  | none => exact h
  | some s =>
    obtain ⟨g, cap, e, h1, h2, h3, h4⟩ := h
    exact ⟨g, cap, e, h1, h2, Nat.le_trans h3 hb.size, h4.later hb (by omega)⟩
theorem SitesAt.wide {x : World} {B E C D : Nat} {v : Value} {o : Option T3} (h : SitesAt x B E v o) (hc : C ≤ B) (hd : E ≤ D) (hx : D ≤ x.heap.size) : SitesAt x C D v o := by
  cases o with
  | none => exact h
  | some s =>
    obtain ⟨g, cap, e, h1, h2, h3, h4⟩ := h
    exact ⟨g, cap, e, by omega, by omega, hx, h4⟩
theorem SitesAt.within {x y : World} {B E C D : Nat} {v : Value} {o : Option T3} (h : SitesAt x C D v o) (hw : Within B E x y) (hd : D ≤ B ∨ E ≤ C) : SitesAt y C D v o := by
  cases o with
  | none => exact h
  | some s =>
    obtain ⟨g, cap, e, h1, h2, h3, c0, c1, c2, f0, f1, f2⟩ := h
    exact ⟨g, cap, e, h1, h2, by rw [← hw.sz]; exact h3, (hw.cell _ _ (by omega)).trans c0, (hw.cell _ _ (by omega)).trans c1, (hw.cell _ _ (by omega)).trans c2, (hw.frozen _ _).trans f0, (hw.frozen _ _).trans f1, (hw.frozen _ _).trans f2⟩

theorem eqSite_same (s : T3) (w : World) : Calls Try.prog 55 #[aggT s, aggT s] w fun e w' => e = .returned (.bool true) ∧ Below w.heap.size w w' := by
  unfold aggT
  go_enter Try.func55, Try.ntmps55
  go_wp2
  go_ret
  exact ⟨rfl, by go_grown⟩

theorem eqSite_at (s : T3) (w : World) : Calls Try.prog 55 #[.agg #[.int .i64 s.1, .int .i64 s.2.1, .int .i64 s.2.2], .agg #[.int .i64 s.1, .int .i64 s.2.1, .int .i64 s.2.2]] w fun e w' => e = .returned (.bool true) ∧ Below w.heap.size w w' := eqSite_same s w
set_option maxRecDepth 100000 in
set_option maxHeartbeats 2000000 in
theorem eqSiteS_same (x0 : World) (B E C D : Nat) (u v : Value) (o : Option T3) (h : SitesAt x0 B E u o) (h' : SitesAt x0 C D v o) :
    Calls Try.prog 20 #[u, v] x0 fun e y => e = .returned (.bool true) ∧ Below x0.heap.size x0 y := by
  cases o with
  | none =>
    obtain ⟨p, cap, rfl⟩ := h
    obtain ⟨p', cap', rfl⟩ := h'
    go_enter Try.func20, Try.ntmps20
    go_wp2_with fail
    go_rounds 1
    go_ret
    exact ⟨rfl, Below.refl _ _⟩
  | some s =>
    obtain ⟨g, cap, rfl, _, hg1, hg2, hs⟩ := h
    obtain ⟨g', cap', rfl, _, hg1', hg2', hs'⟩ := h'
    have hg : g < x0.heap.size := by omega
    have hg' : g' < x0.heap.size := by omega
    have HA : Hid (Si3 x0 g 0 s) := hs
    have HB : Hid (Si3 x0 g' 0 s) := hs'
    clear hs hs' hg1 hg2 hg1' hg2'
    go_enter Try.func20, Try.ntmps20
    go_wp2_with fail
    go_loopw [5] (fun t y => ∃ k : Nat, k ≤ 1 ∧ t = .int .i64 k ∧ Below x0.heap.size x0 y) (fun t _ => 1 - (intOf t).toNat)
    case atStart => exact ⟨0, by omega, rfl, Below.refl _ _⟩
    case round =>
      obtain ⟨k, hk, rfl, hBk⟩ := hrel
      by_cases hlt : k < 1
      · obtain rfl : k = 0 := by omega
        have HK : Hid (Below x0.heap.size x0 wr) := hBk
        clear hBk
        go_wp2_with fail
        refine wp_region_preds (by kernel_rfl) (by kernel_rfl) (by kernel_rfl) (by kernel_rfl) (fun j => [(fun v _ => v = .slice (some ⟨g, 0, none⟩) 1 cap), (fun v _ => v = .int .i64 ↑0), (fun v _ => v = .pointer (some ⟨g, 0, none⟩)), (fun v _ => v = .agg #[.int .i64 s.1, .int .i64 s.2.1, .int .i64 s.2.2]), (fun v _ => v = .slice (some ⟨g', 0, none⟩) 1 cap'), (fun v _ => v = .int .i64 ↑0), (fun v _ => v = .pointer (some ⟨g', 0, none⟩)), (fun v _ => v = .agg #[.int .i64 s.1, .int .i64 s.2.1, .int .i64 s.2.2]), (fun v _ => v = .bool true), (fun v _ => v = .bool false)].getD j (fun _ _ => True)) ?stable wr ((Below.refl _ _).drew) ?step (fun U => ⟨List.toArray ((.slice (some ⟨g, 0, none⟩) 1 cap) :: (.slice (some ⟨g', 0, none⟩) 1 cap') :: (undef) :: (undef) :: (u4) :: (.int .i64 ↑0) :: (.slice (some ⟨g, 0, none⟩) 1 cap) :: (.int .i64 1) :: (.slice (some ⟨g', 0, none⟩) 1 cap') :: (.int .i64 1) :: (.bool false) :: (.int .i64 ↑0) :: (.slice (some ⟨g, 0, none⟩) 1 cap) :: (.int .i64 1) :: (.bool true) :: (u15) :: (u16) :: (U 0) :: (U 1) :: (U 2) :: (U 3) :: (U 4) :: (U 5) :: (U 6) :: (U 7) :: (U 8) :: (U 9) :: []), []⟩) (fun U => by kernel_rfl) ?last
        case stable =>
          intro i v x y ht hb
          rcases i with _ | i
          · exact ht
          rcases i with _ | i
          · exact ht
          rcases i with _ | i
          · exact ht
          rcases i with _ | i
          · exact ht
          rcases i with _ | i
          · exact ht
          rcases i with _ | i
          · exact ht
          rcases i with _ | i
          · exact ht
          rcases i with _ | i
          · exact ht
          rcases i with _ | i
          · exact ht
          rcases i with _ | i
          · exact ht
          exact trivial
        case step =>
          intro i o ho ρ y x hBx hdep hout
          rcases i with _ | i
          · obtain rfl := Option.some.inj ho
            have o0 : ρ (.tmp 0) = .slice (some ⟨g, 0, none⟩) 1 cap := hout (.tmp 0) rfl
            have ocn : ∀ v, ρ (.const v) = v := fun v => hout (.const v) rfl
            have ofn : ∀ f, ρ (.func f) = .func (.func f) #[] #[] := fun f => hout (.func f) rfl
            clear hdep hout
            refine .inl ⟨rfl, ?_⟩
            show GivesP _ _ _ (fun v _ => v = .slice (some ⟨g, 0, none⟩) 1 cap) _
            refine GivesP.val (.slice (some ⟨g, 0, none⟩) 1 cap) rfl ?_
            go_simp
          rcases i with _ | i
          · obtain rfl := Option.some.inj ho
            have o5 : ρ (.tmp 5) = .int .i64 ↑0 := hout (.tmp 5) rfl
            have ocn : ∀ v, ρ (.const v) = v := fun v => hout (.const v) rfl
            have ofn : ∀ f, ρ (.func f) = .func (.func f) #[] #[] := fun f => hout (.func f) rfl
            clear hdep hout
            refine .inl ⟨rfl, ?_⟩
            show GivesP _ _ _ (fun v _ => v = .int .i64 ↑0) _
            refine GivesP.val (.int .i64 ↑0) rfl ?_
            go_simp
          rcases i with _ | i
          · obtain rfl := Option.some.inj ho
            have e0 : ρ (.tmp 17) = .slice (some ⟨g, 0, none⟩) 1 cap := (hdep ⟨0, .data⟩ (by simp) rfl 17 rfl).1
            have e1 : ρ (.tmp 18) = .int .i64 ↑0 := (hdep ⟨1, .data⟩ (by simp) rfl 18 rfl).1
            have ocn : ∀ v, ρ (.const v) = v := fun v => hout (.const v) rfl
            have ofn : ∀ f, ρ (.func f) = .func (.func f) #[] #[] := fun f => hout (.func f) rfl
            clear hdep hout
            refine .inl ⟨rfl, ?_⟩
            show GivesP _ _ _ (fun v _ => v = .pointer (some ⟨g, 0, none⟩)) _
            refine GivesP.val (.pointer (some ⟨g, 0, none⟩)) rfl ?_
            go_simp
          rcases i with _ | i
          · obtain rfl := Option.some.inj ho
            have e2 : ρ (.tmp 19) = .pointer (some ⟨g, 0, none⟩) := (hdep ⟨2, .data⟩ (by simp) rfl 19 rfl).1
            have ocn : ∀ v, ρ (.const v) = v := fun v => hout (.const v) rfl
            have ofn : ∀ f, ρ (.func f) = .func (.func f) #[] #[] := fun f => hout (.func f) rfl
            clear hdep hout
            refine .inl ⟨rfl, ?_⟩
            obtain ⟨c0, c1, c2, _, _, _⟩ := (HA.out.later HK.out hg).later hBx (Nat.lt_of_lt_of_le hg HK.out.size)
            show GivesP _ _ _ (fun v _ => v = .agg #[.int .i64 s.1, .int .i64 s.2.1, .int .i64 s.2.2]) _
            refine GivesP.val (.agg #[.int .i64 s.1, .int .i64 s.2.1, .int .i64 s.2.2]) rfl ?_
            go_simp
          rcases i with _ | i
          · obtain rfl := Option.some.inj ho
            have o1 : ρ (.tmp 1) = .slice (some ⟨g', 0, none⟩) 1 cap' := hout (.tmp 1) rfl
            have ocn : ∀ v, ρ (.const v) = v := fun v => hout (.const v) rfl
            have ofn : ∀ f, ρ (.func f) = .func (.func f) #[] #[] := fun f => hout (.func f) rfl
            clear hdep hout
            refine .inl ⟨rfl, ?_⟩
            show GivesP _ _ _ (fun v _ => v = .slice (some ⟨g', 0, none⟩) 1 cap') _
            refine GivesP.val (.slice (some ⟨g', 0, none⟩) 1 cap') rfl ?_
            go_simp
          rcases i with _ | i
          · obtain rfl := Option.some.inj ho
            have o5 : ρ (.tmp 5) = .int .i64 ↑0 := hout (.tmp 5) rfl
            have ocn : ∀ v, ρ (.const v) = v := fun v => hout (.const v) rfl
            have ofn : ∀ f, ρ (.func f) = .func (.func f) #[] #[] := fun f => hout (.func f) rfl
            clear hdep hout
            refine .inl ⟨rfl, ?_⟩
            show GivesP _ _ _ (fun v _ => v = .int .i64 ↑0) _
            refine GivesP.val (.int .i64 ↑0) rfl ?_
            go_simp
          rcases i with _ | i
          · obtain rfl := Option.some.inj ho
            have e4 : ρ (.tmp 21) = .slice (some ⟨g', 0, none⟩) 1 cap' := (hdep ⟨4, .data⟩ (by simp) rfl 21 rfl).1
            have e5 : ρ (.tmp 22) = .int .i64 ↑0 := (hdep ⟨5, .data⟩ (by simp) rfl 22 rfl).1
            have ocn : ∀ v, ρ (.const v) = v := fun v => hout (.const v) rfl
            have ofn : ∀ f, ρ (.func f) = .func (.func f) #[] #[] := fun f => hout (.func f) rfl
            clear hdep hout
            refine .inl ⟨rfl, ?_⟩
            show GivesP _ _ _ (fun v _ => v = .pointer (some ⟨g', 0, none⟩)) _
            refine GivesP.val (.pointer (some ⟨g', 0, none⟩)) rfl ?_
            go_simp
          rcases i with _ | i
          · obtain rfl := Option.some.inj ho
            have e6 : ρ (.tmp 23) = .pointer (some ⟨g', 0, none⟩) := (hdep ⟨6, .data⟩ (by simp) rfl 23 rfl).1
            have ocn : ∀ v, ρ (.const v) = v := fun v => hout (.const v) rfl
            have ofn : ∀ f, ρ (.func f) = .func (.func f) #[] #[] := fun f => hout (.func f) rfl
            clear hdep hout
            refine .inl ⟨rfl, ?_⟩
            obtain ⟨c0, c1, c2, _, _, _⟩ := (HB.out.later HK.out hg').later hBx (Nat.lt_of_lt_of_le hg' HK.out.size)
            show GivesP _ _ _ (fun v _ => v = .agg #[.int .i64 s.1, .int .i64 s.2.1, .int .i64 s.2.2]) _
            refine GivesP.val (.agg #[.int .i64 s.1, .int .i64 s.2.1, .int .i64 s.2.2]) rfl ?_
            go_simp
          rcases i with _ | i
          · obtain rfl := Option.some.inj ho
            have e3 : ρ (.tmp 20) = .agg #[.int .i64 s.1, .int .i64 s.2.1, .int .i64 s.2.2] := (hdep ⟨3, .data⟩ (by simp) rfl 20 rfl).1
            have e7 : ρ (.tmp 24) = .agg #[.int .i64 s.1, .int .i64 s.2.1, .int .i64 s.2.2] := (hdep ⟨7, .data⟩ (by simp) rfl 24 rfl).1
            have ocn : ∀ v, ρ (.const v) = v := fun v => hout (.const v) rfl
            have ofn : ∀ f, ρ (.func f) = .func (.func f) #[] #[] := fun f => hout (.func f) rfl
            clear hdep hout
            refine .inl ⟨rfl, ?_⟩
            show GivesP _ _ _ (fun v _ => v = .bool true) _
            refine GivesP.call ((eqSite_at s x).mono fun e w9 h9 => ⟨_, h9.1, rfl, h9.2⟩) ?_
            go_simp
          rcases i with _ | i
          · obtain rfl := Option.some.inj ho
            have e8 : ρ (.tmp 25) = .bool true := (hdep ⟨8, .data⟩ (by simp) rfl 25 rfl).1
            have ocn : ∀ v, ρ (.const v) = v := fun v => hout (.const v) rfl
            have ofn : ∀ f, ρ (.func f) = .func (.func f) #[] #[] := fun f => hout (.func f) rfl
            clear hdep hout
            refine .inl ⟨rfl, ?_⟩
            show GivesP _ _ _ (fun v _ => v = .bool false) _
            refine GivesP.val (.bool false) rfl ?_
            go_simp
          cases ho
        case last =>
          intro U z hBx hV
          have e9 : U 9 = .bool false := hV 9 (by simp)
          clear hV
          have hBf := HK.out.trans (hBx.mono HK.out.size)
          rw [e9]
          go_wp2_with fail
          go_roundw
          case rel => exact ⟨1, by omega, by go_num, hBf⟩
          case measure => simp [intOf]
      · obtain rfl : k = 1 := by omega
        go_wp2_with fail
        go_ret
        exact ⟨rfl, hBk⟩

set_option maxRecDepth 100000 in
set_option maxHeartbeats 2000000 in
theorem markSiteS_any (x0 : World) (B E : Nat) (u : Value) (o : Option T3) (h : SitesAt x0 B E u o) :
    Calls Try.prog 23 #[u, .int .i64 1] x0 fun e y => e = .returned (.int .i64 (if o.isSome = true then 4 else 1)) ∧ SitesAt y B E u (o.map fun _ => (1, 2, 3)) ∧ Within B E x0 y := by
  cases o with
  | none =>
    obtain ⟨p, cap, rfl⟩ := h
    go_enter Try.func23, Try.ntmps23
    go_wp2_with fail
    go_rounds 1
    go_ret
    exact ⟨rfl, ⟨p, cap, rfl⟩, Within.refl _ _ _⟩
  | some s =>
    obtain ⟨g, cap, rfl, hB, hE, hx, c0, c1, c2, f0, f1, f2⟩ := h
    go_enter Try.func23, Try.ntmps23
    go_wp2_with fail
    go_rounds 2
    go_ret
    refine ⟨rfl, ⟨g, cap, rfl, hB, hE, by simpa using hx, ?_, ?_, ?_, ?_, ?_, ?_⟩, ?_⟩
    · simp [go_sem, c0, c1, c2]
    · simp [go_sem, c0, c1, c2]
    · simp [go_sem, c0, c1, c2]
    · simpa [go_sem] using f0
    · simpa [go_sem] using f1
    · simpa [go_sem] using f2
    · exact ((Within.refl B E x0).set3 (o := 0) hB hE (.int .i64 1) (.int .i64 2) (.int .i64 3))

set_option maxRecDepth 100000 in
set_option maxHeartbeats 2000000 in
theorem heldSiteS_same (x0 : World) (B E : Nat) (u : Value) (o : Option T3) (h : SitesAt x0 B E u (o.map fun _ => (1, 2, 3))) :
    Calls Try.prog 24 #[u, .int .i64 1] x0 fun e y => e = .returned (.int .i64 (if o.isSome = true then 4 else 1)) ∧ y = x0 := by
  cases o with
  | none =>
    obtain ⟨p, cap, rfl⟩ := h
    go_enter Try.func24, Try.ntmps24
    go_wp2_with fail
    go_rounds 1
    go_ret
    exact ⟨rfl, rfl⟩
  | some s =>
    obtain ⟨g, cap, rfl, hB, hE, hx, c0, c1, c2, f0, f1, f2⟩ := h
    simp only at c0 c1 c2
    go_enter Try.func24, Try.ntmps24
    go_wp2_with fail
    go_rounds 2
    go_ret
    exact ⟨rfl, rfl⟩

end Go.Proofs.Ytifpijindmdboaa
