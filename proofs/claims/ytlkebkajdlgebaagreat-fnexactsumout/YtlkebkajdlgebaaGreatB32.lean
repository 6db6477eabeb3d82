import Derived.Test.YtlkebkajdlgebaaGreatB30
/-
  Whether a row is ok: the contract of the model's l12RowOk.
-/
namespace Go.Proofs.YtlkebkajdlgebaaGreat
open Go.RowKit
set_option linter.unusedVariables false
set_option linter.unusedSimpArgs false

set_option maxRecDepth 100000 in
set_option maxHeartbeats 8000000 in
theorem rowOk_spec (x0 : World) (B : Nat) (v : Value) (P : List (List I4)) (h : ProgAt x0 B v P) (hok : progOkF P = true) (k0 : Nat) (hk0 : k0 < P.length) (r : Rw) (u w : Value) (hs : IRowW 3 x0 u r.ns r.S) (hc : IRowW 2 x0 w r.nc r.C) :
    Calls Tryz.prog 32 #[v, .int .i64 k0, aggRw r u w] x0 fun e y => e = .returned (.bool (rowG P k0 (calledF (P.getD k0 [])) r)) ∧ Below x0.heap.size x0 y := by
  obtain ⟨⟨a, l, uu⟩, ns, S, nc, C⟩ := r
  dsimp only at hs hc
  obtain ⟨pp, cp, rfl, _⟩ := h.shape
  obtain ⟨ps, cs, rfl⟩ := hs.shape
  obtain ⟨pc, cc, rfl⟩ := hc.shape
  have hm3 := hs.len
  have hm4 := hc.len
  unfold maxLen at hm3 hm4
  have hnsi : (ns : Int) ≤ 9223372036854775807 := by omega
  have hnci : (nc : Int) ≤ 9223372036854775807 := by omega
  clear hm3 hm4
  have HF : Hid (rowG P k0 (calledF (P.getD k0 [])) ⟨(a, l, uu), ns, S, nc, C⟩ = (okF a l uu && allB (siteG P k0 S) ns && allB (callG (calledF (P.getD k0 [])) C) nc)) := rfl
  generalize rowG P k0 (calledF (P.getD k0 [])) ⟨(a, l, uu), ns, S, nc, C⟩ = F at HF ⊢
  have HP : Hid (ProgAt x0 B (.slice pp P.length cp) P) := h
  have HOK : Hid (progOkF P = true) := hok
  have HS : Hid (IRowW 3 x0 (.slice ps ns cs) ns S) := hs
  have HCC : Hid (IRowW 2 x0 (.slice pc nc cc) nc C) := hc
  have HK : Hid (k0 < P.length) := hk0
  unfold aggRw
  dsimp only
  clear h hok hs hc hk0
  have HX : Hid (Below x0.heap.size x0 (x0.alloc (.cells #[.bool a, .int .i64 l, .int .i64 uu, .slice ps ns cs, .slice pc nc cc] 71))) := (Below.refl _ _).alloc (Nat.le_refl _) _
  have KX : Hid (BxN (x0.alloc (.cells #[.bool a, .int .i64 l, .int .i64 uu, .slice ps ns cs, .slice pc nc cc] 71)) x0.heap.size [.bool a, .int .i64 l, .int .i64 uu, .slice ps ns cs, .slice pc nc cc]) := BxN.new x0 [_, _, _, _, _] _
  generalize hpn : P.length = pn at *
  have HPN : Hid (P.length = pn) := hpn
  clear hpn
  go_enter Tryz.func32, Tryz.ntmps32
  go_wp2_with fail
  generalize x0.alloc (.cells #[.bool a, .int .i64 l, .int .i64 uu, .slice ps ns cs, .slice pc nc cc] 71) = X at HX KX ⊢
  refine (ok_spec a l uu X).mono ?_
  rintro e y ⟨rfl, hb⟩
  have HY : Hid (Below x0.heap.size x0 y) := HX.out.trans (hb.mono HX.out.size)
  have KY := KX.out.laterH hb
  clear hb HX KX
  cases h1 : okF a l uu
  · go_wp2_with fail
    go_ret
    exact ⟨ret_bool (by rw [HF.out, h1]; rfl), HY.out⟩
  have a3 := KY.out.c 3 _ rfl
  have l3 := KY.out.lt
  have HF2 : Hid (F = (allB (siteG P k0 S) ns && allB (callG (calledF (P.getD k0 [])) C) nc)) := by show _ = _; rw [HF.out, h1]; rfl
  clear HF h1
  go_wp2_with fail
  clear a3 l3
  go_loopw [7] (fun i z => ∃ k : Nat, k ≤ ns ∧ i = .int .i64 k ∧ Hid (Below x0.heap.size x0 z) ∧ Hid (BxN z x0.heap.size [.bool a, .int .i64 l, .int .i64 uu, .slice ps ns cs, .slice pc nc cc]) ∧ Hid (∀ j, j < k → siteG P k0 S j = true)) (fun i _ => ns - (RowKit.intOf i).toNat)
  case atStart => exact ⟨0, by omega, rfl, HY.out, KY.out, fun j hj => by omega⟩
  case round =>
    obtain ⟨k, hk, rfl, HB, KB, hd⟩ := hrel
    have a3 := KB.out.c 3 _ rfl
    have l3 := KB.out.lt
    by_cases hlt : k < ns
    · have hki : (k : Int) < (ns : Int) := by omega
      obtain ⟨p', cap', hv, _, hc⟩ := HS.out
      injection hv with e1 _ e3
      subst e1 e3
      rcases hc with h0 | ⟨g, o, rfl, hBg, hgE, hEx, _, hins⟩
      · omega
      have hgx : g < x0.heap.size := by omega
      have HD : Hid (∀ j, j < ns * 3 → x0.cell? ⟨g, o + j, none⟩ = some (.int .i64 (S j))) := hins
      clear hins hBg hgE hEx
      go_wp2_with fail
      have hq := HD.out
      have q0 := hq (k * 3) (by omega)
      have q1 := hq (k * 3 + 1) (by omega)
      have q2 := hq (k * 3 + 2) (by omega)
      rw [← Nat.add_assoc] at q1 q2
      clear hq
      have HFN : Hid (siteG P k0 S k = false → F = false) := fun h => by rw [HF2.out, allB_no hlt h]; rfl
      have HI : Hid (siteG P k0 S k = ((decide (S (k * 3) = (k0 : Int)) && siteOkF P (S (k * 3), S (k * 3 + 1), S (k * 3 + 2))) && (decide (k = 0) || siteLtF (siteS S (k - 1)) (S (k * 3), S (k * 3 + 1), S (k * 3 + 2))))) := rfl
      have HPV : Hid (∀ km, k = km + 1 → x0.cell? ⟨g, o + km * 3, none⟩ = some (.int .i64 (siteS S km).1) ∧ x0.cell? ⟨g, o + km * 3 + 1, none⟩ = some (.int .i64 (siteS S km).2.1) ∧ x0.cell? ⟨g, o + km * 3 + 2, none⟩ = some (.int .i64 (siteS S km).2.2)) := fun km e => by
        have h := HD.out
        refine ⟨h (km * 3) (by omega), ?_, ?_⟩
        · rw [Nat.add_assoc]; exact h (km * 3 + 1) (by omega)
        · rw [Nat.add_assoc]; exact h (km * 3 + 2) (by omega)
      clear HD HCC HY KY
      generalize S (k * 3) = s0 at *
      generalize S (k * 3 + 1) = s1 at *
      generalize S (k * 3 + 2) = s2 at *
      by_cases h0 : s0 = (k0 : Int)
      · have n0 : (s0 != (k0 : Int)) = false := by simp [h0]
        cases h5 : siteOkF P (s0, s1, s2)
        · have HSO : Hid (∀ z : World, Below x0.heap.size x0 z → Calls Tryz.prog 50 #[.slice pp pn cp, .agg #[.int .i64 s0, .int .i64 s1, .int .i64 s2]] z fun e y => e = .returned (.bool false) ∧ Below z.heap.size z y) := fun z hz => by have := l3SiteOk_any z B _ P (HP.out.later hz) HOK.out (s0, s1, s2); rw [h5] at this; exact this
          refine wp_region_vals (by kernel_rfl) (by kernel_rfl) (by kernel_rfl) (by kernel_rfl) (fun j => [.pointer (some ⟨x0.heap.size, 3, none⟩), .slice (some ⟨g, o, none⟩) ns cs, .int .i64 ↑k, .pointer (some ⟨g, o + k * 3, none⟩), .pointer (some ⟨g, o + k * 3, none⟩), .int .i64 s0, .int .i64 ↑k0, .bool false, .bool false, .slice pp pn cp, .pointer (some ⟨x0.heap.size, 3, none⟩), .slice (some ⟨g, o, none⟩) ns cs, .int .i64 ↑k, .pointer (some ⟨g, o + k * 3, none⟩), .agg #[.int .i64 s0, .int .i64 s1, .int .i64 s2], .bool false, .bool true, .bool true, .bool true, undef, undef, undef, undef, undef, undef, undef, undef, undef, undef, undef, undef, undef, undef, undef, undef, undef, .bool true].getD j undef) wr (Below.drew (Below.refl _ _)) ?step ⟨#[.slice pp pn cp, .int .i64 ↑k0, .agg #[.bool a, .int .i64 l, .int .i64 uu, .slice (some ⟨g, o, none⟩) ns cs, .slice pc nc cc], undef, undef, .pointer (some ⟨x0.heap.size, 0, none⟩), u6, .int .i64 ↑k, undef, undef, .pointer (some ⟨x0.heap.size, 0, none⟩), .agg #[.bool a, .int .i64 l, .int .i64 uu], .bool true, .bool false, .int .i64 ↑k, .pointer (some ⟨x0.heap.size, 3, none⟩), .slice (some ⟨g, o, none⟩) ns cs, .int .i64 ↑ns, .bool true, u19, u20, .pointer (some ⟨x0.heap.size, 3, none⟩), .slice (some ⟨g, o, none⟩) ns cs, .int .i64 ↑k, .pointer (some ⟨g, o + k * 3, none⟩), .pointer (some ⟨g, o + k * 3, none⟩), .int .i64 s0, .int .i64 ↑k0, .bool false, .bool false, .slice pp pn cp, .pointer (some ⟨x0.heap.size, 3, none⟩), .slice (some ⟨g, o, none⟩) ns cs, .int .i64 ↑k, .pointer (some ⟨g, o + k * 3, none⟩), .agg #[.int .i64 s0, .int .i64 s1, .int .i64 s2], .bool false, .bool true, .bool true, .bool true, undef, undef, undef, undef, undef, undef, undef, undef, undef, undef, undef, undef, undef, undef, undef, undef, undef, .bool true, undef, undef, undef, undef, undef, undef, undef, undef, undef, undef, undef, undef, undef, undef, undef, undef, undef, undef, undef, undef, undef, undef, undef, undef, undef, undef, undef, undef, undef, undef, undef, undef, undef, undef, undef, undef, undef, undef, undef, undef, undef, undef, undef, undef, undef, undef, undef, undef], []⟩ (by kernel_rfl) ?fin
          case step =>
            intro i o ho ρ y x hBx hdep hout
            rcases i with _ | i
            · obtain rfl := Option.some.inj ho
              have o5 : ρ (.tmp 5) = .pointer (some ⟨x0.heap.size, 0, none⟩) := hout (.tmp 5) rfl
              clear hdep hout
              refine .inl ⟨rfl, (Gives.val ?_ : Gives _ _ _ (.pointer (some ⟨x0.heap.size, 3, none⟩)) _)⟩
              go_simp
            rcases i with _ | i
            · obtain rfl := Option.some.inj ho
              have e0 : ρ (.tmp 21) = .pointer (some ⟨x0.heap.size, 3, none⟩) := (hdep ⟨0, .data⟩ (by simp) rfl).1 21 rfl
              clear hdep hout
              have kb := KB.out.later hBx
              have c3 := kb.c 3 _ rfl
              have c4 := kb.c 4 _ rfl
              have cl0 := kb.lt
              refine .inl ⟨rfl, (Gives.val ?_ : Gives _ _ _ (.slice (some ⟨g, o, none⟩) ns cs) _)⟩
              go_simp
            rcases i with _ | i
            · obtain rfl := Option.some.inj ho
              have o7 : ρ (.tmp 7) = .int .i64 ↑k := hout (.tmp 7) rfl
              clear hdep hout
              refine .inl ⟨rfl, (Gives.val ?_ : Gives _ _ _ (.int .i64 ↑k) _)⟩
              go_simp
            rcases i with _ | i
            · obtain rfl := Option.some.inj ho
              have e1 : ρ (.tmp 22) = .slice (some ⟨g, o, none⟩) ns cs := (hdep ⟨1, .data⟩ (by simp) rfl).1 22 rfl
              have e2 : ρ (.tmp 23) = .int .i64 ↑k := (hdep ⟨2, .data⟩ (by simp) rfl).1 23 rfl
              clear hdep hout
              refine .inl ⟨rfl, (Gives.val ?_ : Gives _ _ _ (.pointer (some ⟨g, o + k * 3, none⟩)) _)⟩
              go_simp
            rcases i with _ | i
            · obtain rfl := Option.some.inj ho
              have e3 : ρ (.tmp 24) = .pointer (some ⟨g, o + k * 3, none⟩) := (hdep ⟨3, .data⟩ (by simp) rfl).1 24 rfl
              clear hdep hout
              refine .inl ⟨rfl, (Gives.val ?_ : Gives _ _ _ (.pointer (some ⟨g, o + k * 3, none⟩)) _)⟩
              go_simp
            rcases i with _ | i
            · obtain rfl := Option.some.inj ho
              have e4 : ρ (.tmp 25) = .pointer (some ⟨g, o + k * 3, none⟩) := (hdep ⟨4, .data⟩ (by simp) rfl).1 25 rfl
              clear hdep hout
              have hbz := (HB.out.trans (hBx.mono HB.out.size))
              have jq0 := (hbz.cell (p := ⟨g, o + k * 3, none⟩) hgx).trans q0
              have jq1 := (hbz.cell (p := ⟨g, o + k * 3 + 1, none⟩) hgx).trans q1
              have jq2 := (hbz.cell (p := ⟨g, o + k * 3 + 2, none⟩) hgx).trans q2
              refine .inl ⟨rfl, (Gives.val ?_ : Gives _ _ _ (.int .i64 s0) _)⟩
              go_simp
            rcases i with _ | i
            · obtain rfl := Option.some.inj ho
              have o1 : ρ (.tmp 1) = .int .i64 ↑k0 := hout (.tmp 1) rfl
              clear hdep hout
              refine .inl ⟨rfl, (Gives.val ?_ : Gives _ _ _ (.int .i64 ↑k0) _)⟩
              go_simp
            rcases i with _ | i
            · obtain rfl := Option.some.inj ho
              have e5 : ρ (.tmp 26) = .int .i64 s0 := (hdep ⟨5, .data⟩ (by simp) rfl).1 26 rfl
              have e6 : ρ (.tmp 27) = .int .i64 ↑k0 := (hdep ⟨6, .data⟩ (by simp) rfl).1 27 rfl
              clear hdep hout
              refine .inl ⟨rfl, (Gives.val ?_ : Gives _ _ _ (.bool false) _)⟩
              go_simp
            rcases i with _ | i
            · obtain rfl := Option.some.inj ho
              have e7 : ρ (.tmp 28) = .bool false := (hdep ⟨7, .data⟩ (by simp) rfl).1 28 rfl
              clear hdep hout
              refine .inl ⟨rfl, (Gives.val ?_ : Gives _ _ _ (.bool false) _)⟩
              go_simp
            rcases i with _ | i
            · obtain rfl := Option.some.inj ho
              have o0 : ρ (.tmp 0) = .slice pp pn cp := hout (.tmp 0) rfl
              have yg : y 8 = some false := (hdep ⟨8, .guard⟩ (by simp) rfl).2 29 rfl
              clear hdep hout
              refine .inl ⟨(by show (y 8 == some false) = true; rw [yg]; rfl), (Gives.val ?_ : Gives _ _ _ (.slice pp pn cp) _)⟩
              go_simp
            rcases i with _ | i
            · obtain rfl := Option.some.inj ho
              have o5 : ρ (.tmp 5) = .pointer (some ⟨x0.heap.size, 0, none⟩) := hout (.tmp 5) rfl
              have yg : y 8 = some false := (hdep ⟨8, .guard⟩ (by simp) rfl).2 29 rfl
              clear hdep hout
              refine .inl ⟨(by show (y 8 == some false) = true; rw [yg]; rfl), (Gives.val ?_ : Gives _ _ _ (.pointer (some ⟨x0.heap.size, 3, none⟩)) _)⟩
              go_simp
            rcases i with _ | i
            · obtain rfl := Option.some.inj ho
              have e10 : ρ (.tmp 31) = .pointer (some ⟨x0.heap.size, 3, none⟩) := (hdep ⟨10, .data⟩ (by simp) rfl).1 31 rfl
              have yg : y 8 = some false := (hdep ⟨8, .guard⟩ (by simp) rfl).2 29 rfl
              clear hdep hout
              have kb := KB.out.later hBx
              have c3 := kb.c 3 _ rfl
              have c4 := kb.c 4 _ rfl
              have cl0 := kb.lt
              refine .inl ⟨(by show (y 8 == some false) = true; rw [yg]; rfl), (Gives.val ?_ : Gives _ _ _ (.slice (some ⟨g, o, none⟩) ns cs) _)⟩
              go_simp
            rcases i with _ | i
            · obtain rfl := Option.some.inj ho
              have o7 : ρ (.tmp 7) = .int .i64 ↑k := hout (.tmp 7) rfl
              have yg : y 8 = some false := (hdep ⟨8, .guard⟩ (by simp) rfl).2 29 rfl
              clear hdep hout
              refine .inl ⟨(by show (y 8 == some false) = true; rw [yg]; rfl), (Gives.val ?_ : Gives _ _ _ (.int .i64 ↑k) _)⟩
              go_simp
            rcases i with _ | i
            · obtain rfl := Option.some.inj ho
              have e11 : ρ (.tmp 32) = .slice (some ⟨g, o, none⟩) ns cs := (hdep ⟨11, .data⟩ (by simp) rfl).1 32 rfl
              have e12 : ρ (.tmp 33) = .int .i64 ↑k := (hdep ⟨12, .data⟩ (by simp) rfl).1 33 rfl
              have yg : y 8 = some false := (hdep ⟨8, .guard⟩ (by simp) rfl).2 29 rfl
              clear hdep hout
              refine .inl ⟨(by show (y 8 == some false) = true; rw [yg]; rfl), (Gives.val ?_ : Gives _ _ _ (.pointer (some ⟨g, o + k * 3, none⟩)) _)⟩
              go_simp
            rcases i with _ | i
            · obtain rfl := Option.some.inj ho
              have e13 : ρ (.tmp 34) = .pointer (some ⟨g, o + k * 3, none⟩) := (hdep ⟨13, .data⟩ (by simp) rfl).1 34 rfl
              have yg : y 8 = some false := (hdep ⟨8, .guard⟩ (by simp) rfl).2 29 rfl
              clear hdep hout
              have hbz := (HB.out.trans (hBx.mono HB.out.size))
              have jq0 := (hbz.cell (p := ⟨g, o + k * 3, none⟩) hgx).trans q0
              have jq1 := (hbz.cell (p := ⟨g, o + k * 3 + 1, none⟩) hgx).trans q1
              have jq2 := (hbz.cell (p := ⟨g, o + k * 3 + 2, none⟩) hgx).trans q2
              refine .inl ⟨(by show (y 8 == some false) = true; rw [yg]; rfl), (Gives.val ?_ : Gives _ _ _ (.agg #[.int .i64 s0, .int .i64 s1, .int .i64 s2]) _)⟩
              go_simp
            rcases i with _ | i
            · obtain rfl := Option.some.inj ho
              have e9 : ρ (.tmp 30) = .slice pp pn cp := (hdep ⟨9, .data⟩ (by simp) rfl).1 30 rfl
              have e14 : ρ (.tmp 35) = .agg #[.int .i64 s0, .int .i64 s1, .int .i64 s2] := (hdep ⟨14, .data⟩ (by simp) rfl).1 35 rfl
              have yg : y 8 = some false := (hdep ⟨8, .guard⟩ (by simp) rfl).2 29 rfl
              have ofn : ∀ f, ρ (.func f) = .func (.func f) #[] #[] := fun f => hout (.func f) rfl
              clear hdep hout
              refine .inl ⟨?_, ?_⟩
              · show (y 8 == some false) = true
                rw [yg]; rfl
              show Gives _ _ _ (.bool false) _
              refine Gives.call (HSO.out x (HB.out.trans (hBx.mono HB.out.size))) ?_
              go_simp
            rcases i with _ | i
            · obtain rfl := Option.some.inj ho
              have e15 : ρ (.tmp 36) = .bool false := (hdep ⟨15, .data⟩ (by simp) rfl).1 36 rfl
              have yg : y 8 = some false := (hdep ⟨8, .guard⟩ (by simp) rfl).2 29 rfl
              clear hdep hout
              refine .inl ⟨(by show (y 8 == some false) = true; rw [yg]; rfl), (Gives.val ?_ : Gives _ _ _ (.bool true) _)⟩
              go_simp
            rcases i with _ | i
            · obtain rfl := Option.some.inj ho
              have e8 : ρ (.tmp 29) = .bool false := (hdep ⟨8, .data⟩ (by simp) rfl).1 29 rfl
              have e16 : ρ (.tmp 37) = .bool true := (hdep ⟨16, .data⟩ (by simp) rfl).1 37 rfl
              have ocn : ∀ v, ρ (.const v) = v := fun v => hout (.const v) rfl
              clear hdep hout
              refine .inl ⟨rfl, (Gives.val ?_ : Gives _ _ _ (.bool true) _)⟩
              go_simp
            rcases i with _ | i
            · obtain rfl := Option.some.inj ho
              have e17 : ρ (.tmp 38) = .bool true := (hdep ⟨17, .data⟩ (by simp) rfl).1 38 rfl
              clear hdep hout
              refine .inl ⟨rfl, (Gives.val ?_ : Gives _ _ _ (.bool true) _)⟩
              go_simp
            rcases i with _ | i
            · obtain rfl := Option.some.inj ho
              have yg : y 18 = some true := (hdep ⟨18, .guard⟩ (by simp) rfl).2 39 rfl
              exact .inr ⟨by show (y 18 == some false) = false; rw [yg]; rfl, rfl⟩
            rcases i with _ | i
            · obtain rfl := Option.some.inj ho
              have yg : y 18 = some true := (hdep ⟨18, .guard⟩ (by simp) rfl).2 39 rfl
              exact .inr ⟨by show (y 18 == some false) = false; rw [yg]; rfl, rfl⟩
            rcases i with _ | i
            · obtain rfl := Option.some.inj ho
              have yg : y 18 = some true := (hdep ⟨18, .guard⟩ (by simp) rfl).2 39 rfl
              exact .inr ⟨by show (y 18 == some false) = false; rw [yg]; rfl, rfl⟩
            rcases i with _ | i
            · obtain rfl := Option.some.inj ho
              have yg : y 21 = none := (hdep ⟨21, .guard⟩ (by simp) rfl).2 42 rfl
              exact .inr ⟨by show (y 21 == some true) = false; rw [yg]; rfl, rfl⟩
            rcases i with _ | i
            · obtain rfl := Option.some.inj ho
              have yg : y 21 = none := (hdep ⟨21, .guard⟩ (by simp) rfl).2 42 rfl
              exact .inr ⟨by show (y 21 == some true) = false; rw [yg]; rfl, rfl⟩
            rcases i with _ | i
            · obtain rfl := Option.some.inj ho
              have yg : y 21 = none := (hdep ⟨21, .guard⟩ (by simp) rfl).2 42 rfl
              exact .inr ⟨by show (y 21 == some true) = false; rw [yg]; rfl, rfl⟩
            rcases i with _ | i
            · obtain rfl := Option.some.inj ho
              have yg : y 21 = none := (hdep ⟨21, .guard⟩ (by simp) rfl).2 42 rfl
              exact .inr ⟨by show (y 21 == some true) = false; rw [yg]; rfl, rfl⟩
            rcases i with _ | i
            · obtain rfl := Option.some.inj ho
              have yg : y 21 = none := (hdep ⟨21, .guard⟩ (by simp) rfl).2 42 rfl
              exact .inr ⟨by show (y 21 == some true) = false; rw [yg]; rfl, rfl⟩
            rcases i with _ | i
            · obtain rfl := Option.some.inj ho
              have yg : y 21 = none := (hdep ⟨21, .guard⟩ (by simp) rfl).2 42 rfl
              exact .inr ⟨by show (y 21 == some true) = false; rw [yg]; rfl, rfl⟩
            rcases i with _ | i
            · obtain rfl := Option.some.inj ho
              have yg : y 21 = none := (hdep ⟨21, .guard⟩ (by simp) rfl).2 42 rfl
              exact .inr ⟨by show (y 21 == some true) = false; rw [yg]; rfl, rfl⟩
            rcases i with _ | i
            · obtain rfl := Option.some.inj ho
              have yg : y 21 = none := (hdep ⟨21, .guard⟩ (by simp) rfl).2 42 rfl
              exact .inr ⟨by show (y 21 == some true) = false; rw [yg]; rfl, rfl⟩
            rcases i with _ | i
            · obtain rfl := Option.some.inj ho
              have yg : y 21 = none := (hdep ⟨21, .guard⟩ (by simp) rfl).2 42 rfl
              exact .inr ⟨by show (y 21 == some true) = false; rw [yg]; rfl, rfl⟩
            rcases i with _ | i
            · obtain rfl := Option.some.inj ho
              have yg : y 21 = none := (hdep ⟨21, .guard⟩ (by simp) rfl).2 42 rfl
              exact .inr ⟨by show (y 21 == some true) = false; rw [yg]; rfl, rfl⟩
            rcases i with _ | i
            · obtain rfl := Option.some.inj ho
              have yg : y 21 = none := (hdep ⟨21, .guard⟩ (by simp) rfl).2 42 rfl
              exact .inr ⟨by show (y 21 == some true) = false; rw [yg]; rfl, rfl⟩
            rcases i with _ | i
            · obtain rfl := Option.some.inj ho
              have yg : y 21 = none := (hdep ⟨21, .guard⟩ (by simp) rfl).2 42 rfl
              exact .inr ⟨by show (y 21 == some true) = false; rw [yg]; rfl, rfl⟩
            rcases i with _ | i
            · obtain rfl := Option.some.inj ho
              have yg : y 21 = none := (hdep ⟨21, .guard⟩ (by simp) rfl).2 42 rfl
              exact .inr ⟨by show (y 21 == some true) = false; rw [yg]; rfl, rfl⟩
            rcases i with _ | i
            · obtain rfl := Option.some.inj ho
              have yg : y 18 = some true := (hdep ⟨18, .guard⟩ (by simp) rfl).2 39 rfl
              exact .inr ⟨by show (y 18 == some false) = false; rw [yg]; rfl, rfl⟩
            rcases i with _ | i
            · obtain rfl := Option.some.inj ho
              have e18 : ρ (.tmp 39) = .bool true := (hdep ⟨18, .data⟩ (by simp) rfl).1 39 rfl
              have e35 : ρ (.tmp 56) = undef := (hdep ⟨35, .data⟩ (by simp) rfl).1 56 rfl
              have ocn : ∀ v, ρ (.const v) = v := fun v => hout (.const v) rfl
              clear hdep hout
              refine .inl ⟨rfl, (Gives.val ?_ : Gives _ _ _ (.bool true) _)⟩
              go_simp
            cases ho
          case fin =>
            intro x hBx
            have hBf := (HB.out.trans (hBx.mono HB.out.size))
            go_wp2_with fail
            go_ret
            exact ⟨ret_bool (HFN.out (by rw [HI.out, h5]; simp)).symm, hBf⟩
        · have HSO : Hid (∀ z : World, Below x0.heap.size x0 z → Calls Tryz.prog 50 #[.slice pp pn cp, .agg #[.int .i64 s0, .int .i64 s1, .int .i64 s2]] z fun e y => e = .returned (.bool true) ∧ Below z.heap.size z y) := fun z hz => by have := l3SiteOk_any z B _ P (HP.out.later hz) HOK.out (s0, s1, s2); rw [h5] at this; exact this
          by_cases hk0 : k = 0
          · have hgt : ¬ (0 : Int) < (k : Int) := by omega
            have HK0 : Hid (k = 0) := hk0
            clear hk0
            refine wp_region_vals (by kernel_rfl) (by kernel_rfl) (by kernel_rfl) (by kernel_rfl) (fun j => [.pointer (some ⟨x0.heap.size, 3, none⟩), .slice (some ⟨g, o, none⟩) ns cs, .int .i64 ↑k, .pointer (some ⟨g, o + k * 3, none⟩), .pointer (some ⟨g, o + k * 3, none⟩), .int .i64 s0, .int .i64 ↑k0, .bool false, .bool false, .slice pp pn cp, .pointer (some ⟨x0.heap.size, 3, none⟩), .slice (some ⟨g, o, none⟩) ns cs, .int .i64 ↑k, .pointer (some ⟨g, o + k * 3, none⟩), .agg #[.int .i64 s0, .int .i64 s1, .int .i64 s2], .bool true, .bool false, .bool false, .bool false, .int .i64 ↑k, .bool false, .bool false, undef, undef, undef, undef, undef, undef, undef, undef, undef, undef, undef, undef, undef, .bool false, .bool false].getD j undef) wr (Below.drew (Below.refl _ _)) ?step ⟨#[.slice pp pn cp, .int .i64 ↑k0, .agg #[.bool a, .int .i64 l, .int .i64 uu, .slice (some ⟨g, o, none⟩) ns cs, .slice pc nc cc], undef, undef, .pointer (some ⟨x0.heap.size, 0, none⟩), u6, .int .i64 ↑k, undef, undef, .pointer (some ⟨x0.heap.size, 0, none⟩), .agg #[.bool a, .int .i64 l, .int .i64 uu], .bool true, .bool false, .int .i64 ↑k, .pointer (some ⟨x0.heap.size, 3, none⟩), .slice (some ⟨g, o, none⟩) ns cs, .int .i64 ↑ns, .bool true, u19, u20, .pointer (some ⟨x0.heap.size, 3, none⟩), .slice (some ⟨g, o, none⟩) ns cs, .int .i64 ↑k, .pointer (some ⟨g, o + k * 3, none⟩), .pointer (some ⟨g, o + k * 3, none⟩), .int .i64 s0, .int .i64 ↑k0, .bool false, .bool false, .slice pp pn cp, .pointer (some ⟨x0.heap.size, 3, none⟩), .slice (some ⟨g, o, none⟩) ns cs, .int .i64 ↑k, .pointer (some ⟨g, o + k * 3, none⟩), .agg #[.int .i64 s0, .int .i64 s1, .int .i64 s2], .bool true, .bool false, .bool false, .bool false, .int .i64 ↑k, .bool false, .bool false, undef, undef, undef, undef, undef, undef, undef, undef, undef, undef, undef, undef, undef, .bool false, .bool false, undef, undef, undef, undef, undef, undef, undef, undef, undef, undef, undef, undef, undef, undef, undef, undef, undef, undef, undef, undef, undef, undef, undef, undef, undef, undef, undef, undef, undef, undef, undef, undef, undef, undef, undef, undef, undef, undef, undef, undef, undef, undef, undef, undef, undef, undef, undef, undef], []⟩ (by kernel_rfl) ?fin
            case step =>
              intro i o ho ρ y x hBx hdep hout
              rcases i with _ | i
              · obtain rfl := Option.some.inj ho
                have o5 : ρ (.tmp 5) = .pointer (some ⟨x0.heap.size, 0, none⟩) := hout (.tmp 5) rfl
                clear hdep hout
                refine .inl ⟨rfl, (Gives.val ?_ : Gives _ _ _ (.pointer (some ⟨x0.heap.size, 3, none⟩)) _)⟩
                go_simp
              rcases i with _ | i
              · obtain rfl := Option.some.inj ho
                have e0 : ρ (.tmp 21) = .pointer (some ⟨x0.heap.size, 3, none⟩) := (hdep ⟨0, .data⟩ (by simp) rfl).1 21 rfl
                clear hdep hout
                have kb := KB.out.later hBx
                have c3 := kb.c 3 _ rfl
                have c4 := kb.c 4 _ rfl
                have cl0 := kb.lt
                refine .inl ⟨rfl, (Gives.val ?_ : Gives _ _ _ (.slice (some ⟨g, o, none⟩) ns cs) _)⟩
                go_simp
              rcases i with _ | i
              · obtain rfl := Option.some.inj ho
                have o7 : ρ (.tmp 7) = .int .i64 ↑k := hout (.tmp 7) rfl
                clear hdep hout
                refine .inl ⟨rfl, (Gives.val ?_ : Gives _ _ _ (.int .i64 ↑k) _)⟩
                go_simp
              rcases i with _ | i
              · obtain rfl := Option.some.inj ho
                have e1 : ρ (.tmp 22) = .slice (some ⟨g, o, none⟩) ns cs := (hdep ⟨1, .data⟩ (by simp) rfl).1 22 rfl
                have e2 : ρ (.tmp 23) = .int .i64 ↑k := (hdep ⟨2, .data⟩ (by simp) rfl).1 23 rfl
                clear hdep hout
                refine .inl ⟨rfl, (Gives.val ?_ : Gives _ _ _ (.pointer (some ⟨g, o + k * 3, none⟩)) _)⟩
                go_simp
              rcases i with _ | i
              · obtain rfl := Option.some.inj ho
                have e3 : ρ (.tmp 24) = .pointer (some ⟨g, o + k * 3, none⟩) := (hdep ⟨3, .data⟩ (by simp) rfl).1 24 rfl
                clear hdep hout
                refine .inl ⟨rfl, (Gives.val ?_ : Gives _ _ _ (.pointer (some ⟨g, o + k * 3, none⟩)) _)⟩
                go_simp
              rcases i with _ | i
              · obtain rfl := Option.some.inj ho
                have e4 : ρ (.tmp 25) = .pointer (some ⟨g, o + k * 3, none⟩) := (hdep ⟨4, .data⟩ (by simp) rfl).1 25 rfl
                clear hdep hout
                have hbz := (HB.out.trans (hBx.mono HB.out.size))
                have jq0 := (hbz.cell (p := ⟨g, o + k * 3, none⟩) hgx).trans q0
                have jq1 := (hbz.cell (p := ⟨g, o + k * 3 + 1, none⟩) hgx).trans q1
                have jq2 := (hbz.cell (p := ⟨g, o + k * 3 + 2, none⟩) hgx).trans q2
                refine .inl ⟨rfl, (Gives.val ?_ : Gives _ _ _ (.int .i64 s0) _)⟩
                go_simp
              rcases i with _ | i
              · obtain rfl := Option.some.inj ho
                have o1 : ρ (.tmp 1) = .int .i64 ↑k0 := hout (.tmp 1) rfl
                clear hdep hout
                refine .inl ⟨rfl, (Gives.val ?_ : Gives _ _ _ (.int .i64 ↑k0) _)⟩
                go_simp
              rcases i with _ | i
              · obtain rfl := Option.some.inj ho
                have e5 : ρ (.tmp 26) = .int .i64 s0 := (hdep ⟨5, .data⟩ (by simp) rfl).1 26 rfl
                have e6 : ρ (.tmp 27) = .int .i64 ↑k0 := (hdep ⟨6, .data⟩ (by simp) rfl).1 27 rfl
                clear hdep hout
                refine .inl ⟨rfl, (Gives.val ?_ : Gives _ _ _ (.bool false) _)⟩
                go_simp
              rcases i with _ | i
              · obtain rfl := Option.some.inj ho
                have e7 : ρ (.tmp 28) = .bool false := (hdep ⟨7, .data⟩ (by simp) rfl).1 28 rfl
                clear hdep hout
                refine .inl ⟨rfl, (Gives.val ?_ : Gives _ _ _ (.bool false) _)⟩
                go_simp
              rcases i with _ | i
              · obtain rfl := Option.some.inj ho
                have o0 : ρ (.tmp 0) = .slice pp pn cp := hout (.tmp 0) rfl
                have yg : y 8 = some false := (hdep ⟨8, .guard⟩ (by simp) rfl).2 29 rfl
                clear hdep hout
                refine .inl ⟨(by show (y 8 == some false) = true; rw [yg]; rfl), (Gives.val ?_ : Gives _ _ _ (.slice pp pn cp) _)⟩
                go_simp
              rcases i with _ | i
              · obtain rfl := Option.some.inj ho
                have o5 : ρ (.tmp 5) = .pointer (some ⟨x0.heap.size, 0, none⟩) := hout (.tmp 5) rfl
                have yg : y 8 = some false := (hdep ⟨8, .guard⟩ (by simp) rfl).2 29 rfl
                clear hdep hout
                refine .inl ⟨(by show (y 8 == some false) = true; rw [yg]; rfl), (Gives.val ?_ : Gives _ _ _ (.pointer (some ⟨x0.heap.size, 3, none⟩)) _)⟩
                go_simp
              rcases i with _ | i
              · obtain rfl := Option.some.inj ho
                have e10 : ρ (.tmp 31) = .pointer (some ⟨x0.heap.size, 3, none⟩) := (hdep ⟨10, .data⟩ (by simp) rfl).1 31 rfl
                have yg : y 8 = some false := (hdep ⟨8, .guard⟩ (by simp) rfl).2 29 rfl
                clear hdep hout
                have kb := KB.out.later hBx
                have c3 := kb.c 3 _ rfl
                have c4 := kb.c 4 _ rfl
                have cl0 := kb.lt
                refine .inl ⟨(by show (y 8 == some false) = true; rw [yg]; rfl), (Gives.val ?_ : Gives _ _ _ (.slice (some ⟨g, o, none⟩) ns cs) _)⟩
                go_simp
              rcases i with _ | i
              · obtain rfl := Option.some.inj ho
                have o7 : ρ (.tmp 7) = .int .i64 ↑k := hout (.tmp 7) rfl
                have yg : y 8 = some false := (hdep ⟨8, .guard⟩ (by simp) rfl).2 29 rfl
                clear hdep hout
                refine .inl ⟨(by show (y 8 == some false) = true; rw [yg]; rfl), (Gives.val ?_ : Gives _ _ _ (.int .i64 ↑k) _)⟩
                go_simp
              rcases i with _ | i
              · obtain rfl := Option.some.inj ho
                have e11 : ρ (.tmp 32) = .slice (some ⟨g, o, none⟩) ns cs := (hdep ⟨11, .data⟩ (by simp) rfl).1 32 rfl
                have e12 : ρ (.tmp 33) = .int .i64 ↑k := (hdep ⟨12, .data⟩ (by simp) rfl).1 33 rfl
                have yg : y 8 = some false := (hdep ⟨8, .guard⟩ (by simp) rfl).2 29 rfl
                clear hdep hout
                refine .inl ⟨(by show (y 8 == some false) = true; rw [yg]; rfl), (Gives.val ?_ : Gives _ _ _ (.pointer (some ⟨g, o + k * 3, none⟩)) _)⟩
                go_simp
              rcases i with _ | i
              · obtain rfl := Option.some.inj ho
                have e13 : ρ (.tmp 34) = .pointer (some ⟨g, o + k * 3, none⟩) := (hdep ⟨13, .data⟩ (by simp) rfl).1 34 rfl
                have yg : y 8 = some false := (hdep ⟨8, .guard⟩ (by simp) rfl).2 29 rfl
                clear hdep hout
                have hbz := (HB.out.trans (hBx.mono HB.out.size))
                have jq0 := (hbz.cell (p := ⟨g, o + k * 3, none⟩) hgx).trans q0
                have jq1 := (hbz.cell (p := ⟨g, o + k * 3 + 1, none⟩) hgx).trans q1
                have jq2 := (hbz.cell (p := ⟨g, o + k * 3 + 2, none⟩) hgx).trans q2
                refine .inl ⟨(by show (y 8 == some false) = true; rw [yg]; rfl), (Gives.val ?_ : Gives _ _ _ (.agg #[.int .i64 s0, .int .i64 s1, .int .i64 s2]) _)⟩
                go_simp
              rcases i with _ | i
              · obtain rfl := Option.some.inj ho
                have e9 : ρ (.tmp 30) = .slice pp pn cp := (hdep ⟨9, .data⟩ (by simp) rfl).1 30 rfl
                have e14 : ρ (.tmp 35) = .agg #[.int .i64 s0, .int .i64 s1, .int .i64 s2] := (hdep ⟨14, .data⟩ (by simp) rfl).1 35 rfl
                have yg : y 8 = some false := (hdep ⟨8, .guard⟩ (by simp) rfl).2 29 rfl
                have ofn : ∀ f, ρ (.func f) = .func (.func f) #[] #[] := fun f => hout (.func f) rfl
                clear hdep hout
                refine .inl ⟨?_, ?_⟩
                · show (y 8 == some false) = true
                  rw [yg]; rfl
                show Gives _ _ _ (.bool true) _
                refine Gives.call (HSO.out x (HB.out.trans (hBx.mono HB.out.size))) ?_
                go_simp
              rcases i with _ | i
              · obtain rfl := Option.some.inj ho
                have e15 : ρ (.tmp 36) = .bool true := (hdep ⟨15, .data⟩ (by simp) rfl).1 36 rfl
                have yg : y 8 = some false := (hdep ⟨8, .guard⟩ (by simp) rfl).2 29 rfl
                clear hdep hout
                refine .inl ⟨(by show (y 8 == some false) = true; rw [yg]; rfl), (Gives.val ?_ : Gives _ _ _ (.bool false) _)⟩
                go_simp
              rcases i with _ | i
              · obtain rfl := Option.some.inj ho
                have e8 : ρ (.tmp 29) = .bool false := (hdep ⟨8, .data⟩ (by simp) rfl).1 29 rfl
                have e16 : ρ (.tmp 37) = .bool false := (hdep ⟨16, .data⟩ (by simp) rfl).1 37 rfl
                have ocn : ∀ v, ρ (.const v) = v := fun v => hout (.const v) rfl
                clear hdep hout
                refine .inl ⟨rfl, (Gives.val ?_ : Gives _ _ _ (.bool false) _)⟩
                go_simp
              rcases i with _ | i
              · obtain rfl := Option.some.inj ho
                have e17 : ρ (.tmp 38) = .bool false := (hdep ⟨17, .data⟩ (by simp) rfl).1 38 rfl
                clear hdep hout
                refine .inl ⟨rfl, (Gives.val ?_ : Gives _ _ _ (.bool false) _)⟩
                go_simp
              rcases i with _ | i
              · obtain rfl := Option.some.inj ho
                have o7 : ρ (.tmp 7) = .int .i64 ↑k := hout (.tmp 7) rfl
                have yg : y 18 = some false := (hdep ⟨18, .guard⟩ (by simp) rfl).2 39 rfl
                clear hdep hout
                refine .inl ⟨(by show (y 18 == some false) = true; rw [yg]; rfl), (Gives.val ?_ : Gives _ _ _ (.int .i64 ↑k) _)⟩
                go_simp
              rcases i with _ | i
              · obtain rfl := Option.some.inj ho
                have e19 : ρ (.tmp 40) = .int .i64 ↑k := (hdep ⟨19, .data⟩ (by simp) rfl).1 40 rfl
                have yg : y 18 = some false := (hdep ⟨18, .guard⟩ (by simp) rfl).2 39 rfl
                have ocn : ∀ v, ρ (.const v) = v := fun v => hout (.const v) rfl
                clear hdep hout
                refine .inl ⟨(by show (y 18 == some false) = true; rw [yg]; rfl), (Gives.val ?_ : Gives _ _ _ (.bool false) _)⟩
                (go_simp; exact HK0.out)
              rcases i with _ | i
              · obtain rfl := Option.some.inj ho
                have e20 : ρ (.tmp 41) = .bool false := (hdep ⟨20, .data⟩ (by simp) rfl).1 41 rfl
                have yg : y 18 = some false := (hdep ⟨18, .guard⟩ (by simp) rfl).2 39 rfl
                clear hdep hout
                refine .inl ⟨(by show (y 18 == some false) = true; rw [yg]; rfl), (Gives.val ?_ : Gives _ _ _ (.bool false) _)⟩
                go_simp
              rcases i with _ | i
              · obtain rfl := Option.some.inj ho
                have yg : y 21 = some false := (hdep ⟨21, .guard⟩ (by simp) rfl).2 42 rfl
                exact .inr ⟨by show (y 21 == some true) = false; rw [yg]; rfl, rfl⟩
              rcases i with _ | i
              · obtain rfl := Option.some.inj ho
                have yg : y 21 = some false := (hdep ⟨21, .guard⟩ (by simp) rfl).2 42 rfl
                exact .inr ⟨by show (y 21 == some true) = false; rw [yg]; rfl, rfl⟩
              rcases i with _ | i
              · obtain rfl := Option.some.inj ho
                have yg : y 21 = some false := (hdep ⟨21, .guard⟩ (by simp) rfl).2 42 rfl
                exact .inr ⟨by show (y 21 == some true) = false; rw [yg]; rfl, rfl⟩
              rcases i with _ | i
              · obtain rfl := Option.some.inj ho
                have yg : y 21 = some false := (hdep ⟨21, .guard⟩ (by simp) rfl).2 42 rfl
                exact .inr ⟨by show (y 21 == some true) = false; rw [yg]; rfl, rfl⟩
              rcases i with _ | i
              · obtain rfl := Option.some.inj ho
                have yg : y 21 = some false := (hdep ⟨21, .guard⟩ (by simp) rfl).2 42 rfl
                exact .inr ⟨by show (y 21 == some true) = false; rw [yg]; rfl, rfl⟩
              rcases i with _ | i
              · obtain rfl := Option.some.inj ho
                have yg : y 21 = some false := (hdep ⟨21, .guard⟩ (by simp) rfl).2 42 rfl
                exact .inr ⟨by show (y 21 == some true) = false; rw [yg]; rfl, rfl⟩
              rcases i with _ | i
              · obtain rfl := Option.some.inj ho
                have yg : y 21 = some false := (hdep ⟨21, .guard⟩ (by simp) rfl).2 42 rfl
                exact .inr ⟨by show (y 21 == some true) = false; rw [yg]; rfl, rfl⟩
              rcases i with _ | i
              · obtain rfl := Option.some.inj ho
                have yg : y 21 = some false := (hdep ⟨21, .guard⟩ (by simp) rfl).2 42 rfl
                exact .inr ⟨by show (y 21 == some true) = false; rw [yg]; rfl, rfl⟩
              rcases i with _ | i
              · obtain rfl := Option.some.inj ho
                have yg : y 21 = some false := (hdep ⟨21, .guard⟩ (by simp) rfl).2 42 rfl
                exact .inr ⟨by show (y 21 == some true) = false; rw [yg]; rfl, rfl⟩
              rcases i with _ | i
              · obtain rfl := Option.some.inj ho
                have yg : y 21 = some false := (hdep ⟨21, .guard⟩ (by simp) rfl).2 42 rfl
                exact .inr ⟨by show (y 21 == some true) = false; rw [yg]; rfl, rfl⟩
              rcases i with _ | i
              · obtain rfl := Option.some.inj ho
                have yg : y 21 = some false := (hdep ⟨21, .guard⟩ (by simp) rfl).2 42 rfl
                exact .inr ⟨by show (y 21 == some true) = false; rw [yg]; rfl, rfl⟩
              rcases i with _ | i
              · obtain rfl := Option.some.inj ho
                have yg : y 21 = some false := (hdep ⟨21, .guard⟩ (by simp) rfl).2 42 rfl
                exact .inr ⟨by show (y 21 == some true) = false; rw [yg]; rfl, rfl⟩
              rcases i with _ | i
              · obtain rfl := Option.some.inj ho
                have yg : y 21 = some false := (hdep ⟨21, .guard⟩ (by simp) rfl).2 42 rfl
                exact .inr ⟨by show (y 21 == some true) = false; rw [yg]; rfl, rfl⟩
              rcases i with _ | i
              · obtain rfl := Option.some.inj ho
                have e21 : ρ (.tmp 42) = .bool false := (hdep ⟨21, .data⟩ (by simp) rfl).1 42 rfl
                have e34 : ρ (.tmp 55) = undef := (hdep ⟨34, .data⟩ (by simp) rfl).1 55 rfl
                have yg : y 18 = some false := (hdep ⟨18, .guard⟩ (by simp) rfl).2 39 rfl
                have ocn : ∀ v, ρ (.const v) = v := fun v => hout (.const v) rfl
                clear hdep hout
                refine .inl ⟨(by show (y 18 == some false) = true; rw [yg]; rfl), (Gives.val ?_ : Gives _ _ _ (.bool false) _)⟩
                go_simp
              rcases i with _ | i
              · obtain rfl := Option.some.inj ho
                have e18 : ρ (.tmp 39) = .bool false := (hdep ⟨18, .data⟩ (by simp) rfl).1 39 rfl
                have e35 : ρ (.tmp 56) = .bool false := (hdep ⟨35, .data⟩ (by simp) rfl).1 56 rfl
                have ocn : ∀ v, ρ (.const v) = v := fun v => hout (.const v) rfl
                clear hdep hout
                refine .inl ⟨rfl, (Gives.val ?_ : Gives _ _ _ (.bool false) _)⟩
                go_simp
              cases ho
            case fin =>
              intro x hBx
              have HBN : Hid (Below x0.heap.size x0 x) := (HB.out.trans (hBx.mono HB.out.size))
              have KBN := KB.out.laterH hBx
              clear HB KB hBx a3 l3
              go_wp2_with fail
              go_roundw
              case rel =>
                refine ⟨k + 1, by omega, by go_num, HBN.out, KBN.out, fun j hj => ?_⟩
                rcases (by omega : j < k ∨ j = k) with h | rfl
                · exact hd.out j h
                · rw [HI.out, h5, h0]; simp [HK0.out]
              case measure => simp [RowKit.intOf]; omega
          · have hgt : (0 : Int) < (k : Int) := by omega
            obtain ⟨km, hkm⟩ : ∃ km, k = km + 1 := ⟨k - 1, by omega⟩
            obtain ⟨p0, p1, p2⟩ := HPV.out km hkm
            have hkmn : (km : Int) < (ns : Int) := by omega
            have HI2 : Hid (siteG P k0 S k = siteLtF (siteS S km) (s0, s1, s2)) := by show _ = _; rw [HI.out, h5, h0, show k - 1 = km by omega]; simp [hk0]
            clear HI HPV
            have HKM : Hid (k = km + 1) := hkm
            clear hkm
            generalize siteS S km = T at *
            obtain ⟨t0, t1, t2⟩ := T
            simp only at p0 p1 p2
            cases h7 : siteLtF (t0, t1, t2) (s0, s1, s2)
            · have HSL : Hid (∀ z : World, Calls Tryz.prog 51 #[.agg #[.int .i64 t0, .int .i64 t1, .int .i64 t2], .agg #[.int .i64 s0, .int .i64 s1, .int .i64 s2]] z fun e y => e = .returned (.bool false) ∧ Below z.heap.size z y) := fun z => by have := siteLess_any (t0, t1, t2) (s0, s1, s2) z; rw [h7] at this; exact this
              refine wp_region_vals (by kernel_rfl) (by kernel_rfl) (by kernel_rfl) (by kernel_rfl) (fun j => [.pointer (some ⟨x0.heap.size, 3, none⟩), .slice (some ⟨g, o, none⟩) ns cs, .int .i64 ↑k, .pointer (some ⟨g, o + k * 3, none⟩), .pointer (some ⟨g, o + k * 3, none⟩), .int .i64 s0, .int .i64 ↑k0, .bool false, .bool false, .slice pp pn cp, .pointer (some ⟨x0.heap.size, 3, none⟩), .slice (some ⟨g, o, none⟩) ns cs, .int .i64 ↑k, .pointer (some ⟨g, o + k * 3, none⟩), .agg #[.int .i64 s0, .int .i64 s1, .int .i64 s2], .bool true, .bool false, .bool false, .bool false, .int .i64 ↑k, .bool true, .bool true, .pointer (some ⟨x0.heap.size, 3, none⟩), .slice (some ⟨g, o, none⟩) ns cs, .int .i64 ↑k, .int .i64 ↑km, .pointer (some ⟨g, o + km * 3, none⟩), .agg #[.int .i64 t0, .int .i64 t1, .int .i64 t2], .pointer (some ⟨x0.heap.size, 3, none⟩), .slice (some ⟨g, o, none⟩) ns cs, .int .i64 ↑k, .pointer (some ⟨g, o + k * 3, none⟩), .agg #[.int .i64 s0, .int .i64 s1, .int .i64 s2], .bool false, .bool true, .bool true, .bool true].getD j undef) wr (Below.drew (Below.refl _ _)) ?step ⟨#[.slice pp pn cp, .int .i64 ↑k0, .agg #[.bool a, .int .i64 l, .int .i64 uu, .slice (some ⟨g, o, none⟩) ns cs, .slice pc nc cc], undef, undef, .pointer (some ⟨x0.heap.size, 0, none⟩), u6, .int .i64 ↑k, undef, undef, .pointer (some ⟨x0.heap.size, 0, none⟩), .agg #[.bool a, .int .i64 l, .int .i64 uu], .bool true, .bool false, .int .i64 ↑k, .pointer (some ⟨x0.heap.size, 3, none⟩), .slice (some ⟨g, o, none⟩) ns cs, .int .i64 ↑ns, .bool true, u19, u20, .pointer (some ⟨x0.heap.size, 3, none⟩), .slice (some ⟨g, o, none⟩) ns cs, .int .i64 ↑k, .pointer (some ⟨g, o + k * 3, none⟩), .pointer (some ⟨g, o + k * 3, none⟩), .int .i64 s0, .int .i64 ↑k0, .bool false, .bool false, .slice pp pn cp, .pointer (some ⟨x0.heap.size, 3, none⟩), .slice (some ⟨g, o, none⟩) ns cs, .int .i64 ↑k, .pointer (some ⟨g, o + k * 3, none⟩), .agg #[.int .i64 s0, .int .i64 s1, .int .i64 s2], .bool true, .bool false, .bool false, .bool false, .int .i64 ↑k, .bool true, .bool true, .pointer (some ⟨x0.heap.size, 3, none⟩), .slice (some ⟨g, o, none⟩) ns cs, .int .i64 ↑k, .int .i64 ↑km, .pointer (some ⟨g, o + km * 3, none⟩), .agg #[.int .i64 t0, .int .i64 t1, .int .i64 t2], .pointer (some ⟨x0.heap.size, 3, none⟩), .slice (some ⟨g, o, none⟩) ns cs, .int .i64 ↑k, .pointer (some ⟨g, o + k * 3, none⟩), .agg #[.int .i64 s0, .int .i64 s1, .int .i64 s2], .bool false, .bool true, .bool true, .bool true, undef, undef, undef, undef, undef, undef, undef, undef, undef, undef, undef, undef, undef, undef, undef, undef, undef, undef, undef, undef, undef, undef, undef, undef, undef, undef, undef, undef, undef, undef, undef, undef, undef, undef, undef, undef, undef, undef, undef, undef, undef, undef, undef, undef, undef, undef, undef, undef], []⟩ (by kernel_rfl) ?fin
              case step =>
                intro i o ho ρ y x hBx hdep hout
                rcases i with _ | i
                · obtain rfl := Option.some.inj ho
                  have o5 : ρ (.tmp 5) = .pointer (some ⟨x0.heap.size, 0, none⟩) := hout (.tmp 5) rfl
                  clear hdep hout
                  refine .inl ⟨rfl, (Gives.val ?_ : Gives _ _ _ (.pointer (some ⟨x0.heap.size, 3, none⟩)) _)⟩
                  go_simp
                rcases i with _ | i
                · obtain rfl := Option.some.inj ho
                  have e0 : ρ (.tmp 21) = .pointer (some ⟨x0.heap.size, 3, none⟩) := (hdep ⟨0, .data⟩ (by simp) rfl).1 21 rfl
                  clear hdep hout
                  have kb := KB.out.later hBx
                  have c3 := kb.c 3 _ rfl
                  have c4 := kb.c 4 _ rfl
                  have cl0 := kb.lt
                  refine .inl ⟨rfl, (Gives.val ?_ : Gives _ _ _ (.slice (some ⟨g, o, none⟩) ns cs) _)⟩
                  go_simp
                rcases i with _ | i
                · obtain rfl := Option.some.inj ho
                  have o7 : ρ (.tmp 7) = .int .i64 ↑k := hout (.tmp 7) rfl
                  clear hdep hout
                  refine .inl ⟨rfl, (Gives.val ?_ : Gives _ _ _ (.int .i64 ↑k) _)⟩
                  go_simp
                rcases i with _ | i
                · obtain rfl := Option.some.inj ho
                  have e1 : ρ (.tmp 22) = .slice (some ⟨g, o, none⟩) ns cs := (hdep ⟨1, .data⟩ (by simp) rfl).1 22 rfl
                  have e2 : ρ (.tmp 23) = .int .i64 ↑k := (hdep ⟨2, .data⟩ (by simp) rfl).1 23 rfl
                  clear hdep hout
                  refine .inl ⟨rfl, (Gives.val ?_ : Gives _ _ _ (.pointer (some ⟨g, o + k * 3, none⟩)) _)⟩
                  go_simp
                rcases i with _ | i
                · obtain rfl := Option.some.inj ho
                  have e3 : ρ (.tmp 24) = .pointer (some ⟨g, o + k * 3, none⟩) := (hdep ⟨3, .data⟩ (by simp) rfl).1 24 rfl
                  clear hdep hout
                  refine .inl ⟨rfl, (Gives.val ?_ : Gives _ _ _ (.pointer (some ⟨g, o + k * 3, none⟩)) _)⟩
                  go_simp
                rcases i with _ | i
                · obtain rfl := Option.some.inj ho
                  have e4 : ρ (.tmp 25) = .pointer (some ⟨g, o + k * 3, none⟩) := (hdep ⟨4, .data⟩ (by simp) rfl).1 25 rfl
                  clear hdep hout
                  have hbz := (HB.out.trans (hBx.mono HB.out.size))
                  have jq0 := (hbz.cell (p := ⟨g, o + k * 3, none⟩) hgx).trans q0
                  have jq1 := (hbz.cell (p := ⟨g, o + k * 3 + 1, none⟩) hgx).trans q1
                  have jq2 := (hbz.cell (p := ⟨g, o + k * 3 + 2, none⟩) hgx).trans q2
                  refine .inl ⟨rfl, (Gives.val ?_ : Gives _ _ _ (.int .i64 s0) _)⟩
                  go_simp
                rcases i with _ | i
                · obtain rfl := Option.some.inj ho
                  have o1 : ρ (.tmp 1) = .int .i64 ↑k0 := hout (.tmp 1) rfl
                  clear hdep hout
                  refine .inl ⟨rfl, (Gives.val ?_ : Gives _ _ _ (.int .i64 ↑k0) _)⟩
                  go_simp
                rcases i with _ | i
                · obtain rfl := Option.some.inj ho
                  have e5 : ρ (.tmp 26) = .int .i64 s0 := (hdep ⟨5, .data⟩ (by simp) rfl).1 26 rfl
                  have e6 : ρ (.tmp 27) = .int .i64 ↑k0 := (hdep ⟨6, .data⟩ (by simp) rfl).1 27 rfl
                  clear hdep hout
                  refine .inl ⟨rfl, (Gives.val ?_ : Gives _ _ _ (.bool false) _)⟩
                  go_simp
                rcases i with _ | i
                · obtain rfl := Option.some.inj ho
                  have e7 : ρ (.tmp 28) = .bool false := (hdep ⟨7, .data⟩ (by simp) rfl).1 28 rfl
                  clear hdep hout
                  refine .inl ⟨rfl, (Gives.val ?_ : Gives _ _ _ (.bool false) _)⟩
                  go_simp
                rcases i with _ | i
                · obtain rfl := Option.some.inj ho
                  have o0 : ρ (.tmp 0) = .slice pp pn cp := hout (.tmp 0) rfl
                  have yg : y 8 = some false := (hdep ⟨8, .guard⟩ (by simp) rfl).2 29 rfl
                  clear hdep hout
                  refine .inl ⟨(by show (y 8 == some false) = true; rw [yg]; rfl), (Gives.val ?_ : Gives _ _ _ (.slice pp pn cp) _)⟩
                  go_simp
                rcases i with _ | i
                · obtain rfl := Option.some.inj ho
                  have o5 : ρ (.tmp 5) = .pointer (some ⟨x0.heap.size, 0, none⟩) := hout (.tmp 5) rfl
                  have yg : y 8 = some false := (hdep ⟨8, .guard⟩ (by simp) rfl).2 29 rfl
                  clear hdep hout
                  refine .inl ⟨(by show (y 8 == some false) = true; rw [yg]; rfl), (Gives.val ?_ : Gives _ _ _ (.pointer (some ⟨x0.heap.size, 3, none⟩)) _)⟩
                  go_simp
                rcases i with _ | i
                · obtain rfl := Option.some.inj ho
                  have e10 : ρ (.tmp 31) = .pointer (some ⟨x0.heap.size, 3, none⟩) := (hdep ⟨10, .data⟩ (by simp) rfl).1 31 rfl
                  have yg : y 8 = some false := (hdep ⟨8, .guard⟩ (by simp) rfl).2 29 rfl
                  clear hdep hout
                  have kb := KB.out.later hBx
                  have c3 := kb.c 3 _ rfl
                  have c4 := kb.c 4 _ rfl
                  have cl0 := kb.lt
                  refine .inl ⟨(by show (y 8 == some false) = true; rw [yg]; rfl), (Gives.val ?_ : Gives _ _ _ (.slice (some ⟨g, o, none⟩) ns cs) _)⟩
                  go_simp
                rcases i with _ | i
                · obtain rfl := Option.some.inj ho
                  have o7 : ρ (.tmp 7) = .int .i64 ↑k := hout (.tmp 7) rfl
                  have yg : y 8 = some false := (hdep ⟨8, .guard⟩ (by simp) rfl).2 29 rfl
                  clear hdep hout
                  refine .inl ⟨(by show (y 8 == some false) = true; rw [yg]; rfl), (Gives.val ?_ : Gives _ _ _ (.int .i64 ↑k) _)⟩
                  go_simp
                rcases i with _ | i
                · obtain rfl := Option.some.inj ho
                  have e11 : ρ (.tmp 32) = .slice (some ⟨g, o, none⟩) ns cs := (hdep ⟨11, .data⟩ (by simp) rfl).1 32 rfl
                  have e12 : ρ (.tmp 33) = .int .i64 ↑k := (hdep ⟨12, .data⟩ (by simp) rfl).1 33 rfl
                  have yg : y 8 = some false := (hdep ⟨8, .guard⟩ (by simp) rfl).2 29 rfl
                  clear hdep hout
                  refine .inl ⟨(by show (y 8 == some false) = true; rw [yg]; rfl), (Gives.val ?_ : Gives _ _ _ (.pointer (some ⟨g, o + k * 3, none⟩)) _)⟩
                  go_simp
                rcases i with _ | i
                · obtain rfl := Option.some.inj ho
                  have e13 : ρ (.tmp 34) = .pointer (some ⟨g, o + k * 3, none⟩) := (hdep ⟨13, .data⟩ (by simp) rfl).1 34 rfl
                  have yg : y 8 = some false := (hdep ⟨8, .guard⟩ (by simp) rfl).2 29 rfl
                  clear hdep hout
                  have hbz := (HB.out.trans (hBx.mono HB.out.size))
                  have jq0 := (hbz.cell (p := ⟨g, o + k * 3, none⟩) hgx).trans q0
                  have jq1 := (hbz.cell (p := ⟨g, o + k * 3 + 1, none⟩) hgx).trans q1
                  have jq2 := (hbz.cell (p := ⟨g, o + k * 3 + 2, none⟩) hgx).trans q2
                  refine .inl ⟨(by show (y 8 == some false) = true; rw [yg]; rfl), (Gives.val ?_ : Gives _ _ _ (.agg #[.int .i64 s0, .int .i64 s1, .int .i64 s2]) _)⟩
                  go_simp
                rcases i with _ | i
                · obtain rfl := Option.some.inj ho
                  have e9 : ρ (.tmp 30) = .slice pp pn cp := (hdep ⟨9, .data⟩ (by simp) rfl).1 30 rfl
                  have e14 : ρ (.tmp 35) = .agg #[.int .i64 s0, .int .i64 s1, .int .i64 s2] := (hdep ⟨14, .data⟩ (by simp) rfl).1 35 rfl
                  have yg : y 8 = some false := (hdep ⟨8, .guard⟩ (by simp) rfl).2 29 rfl
                  have ofn : ∀ f, ρ (.func f) = .func (.func f) #[] #[] := fun f => hout (.func f) rfl
                  clear hdep hout
                  refine .inl ⟨?_, ?_⟩
                  · show (y 8 == some false) = true
                    rw [yg]; rfl
                  show Gives _ _ _ (.bool true) _
                  refine Gives.call (HSO.out x (HB.out.trans (hBx.mono HB.out.size))) ?_
                  go_simp
                rcases i with _ | i
                · obtain rfl := Option.some.inj ho
                  have e15 : ρ (.tmp 36) = .bool true := (hdep ⟨15, .data⟩ (by simp) rfl).1 36 rfl
                  have yg : y 8 = some false := (hdep ⟨8, .guard⟩ (by simp) rfl).2 29 rfl
                  clear hdep hout
                  refine .inl ⟨(by show (y 8 == some false) = true; rw [yg]; rfl), (Gives.val ?_ : Gives _ _ _ (.bool false) _)⟩
                  go_simp
                rcases i with _ | i
                · obtain rfl := Option.some.inj ho
                  have e8 : ρ (.tmp 29) = .bool false := (hdep ⟨8, .data⟩ (by simp) rfl).1 29 rfl
                  have e16 : ρ (.tmp 37) = .bool false := (hdep ⟨16, .data⟩ (by simp) rfl).1 37 rfl
                  have ocn : ∀ v, ρ (.const v) = v := fun v => hout (.const v) rfl
                  clear hdep hout
                  refine .inl ⟨rfl, (Gives.val ?_ : Gives _ _ _ (.bool false) _)⟩
                  go_simp
                rcases i with _ | i
                · obtain rfl := Option.some.inj ho
                  have e17 : ρ (.tmp 38) = .bool false := (hdep ⟨17, .data⟩ (by simp) rfl).1 38 rfl
                  clear hdep hout
                  refine .inl ⟨rfl, (Gives.val ?_ : Gives _ _ _ (.bool false) _)⟩
                  go_simp
                rcases i with _ | i
                · obtain rfl := Option.some.inj ho
                  have o7 : ρ (.tmp 7) = .int .i64 ↑k := hout (.tmp 7) rfl
                  have yg : y 18 = some false := (hdep ⟨18, .guard⟩ (by simp) rfl).2 39 rfl
                  clear hdep hout
                  refine .inl ⟨(by show (y 18 == some false) = true; rw [yg]; rfl), (Gives.val ?_ : Gives _ _ _ (.int .i64 ↑k) _)⟩
                  go_simp
                rcases i with _ | i
                · obtain rfl := Option.some.inj ho
                  have e19 : ρ (.tmp 40) = .int .i64 ↑k := (hdep ⟨19, .data⟩ (by simp) rfl).1 40 rfl
                  have yg : y 18 = some false := (hdep ⟨18, .guard⟩ (by simp) rfl).2 39 rfl
                  have ocn : ∀ v, ρ (.const v) = v := fun v => hout (.const v) rfl
                  clear hdep hout
                  refine .inl ⟨(by show (y 18 == some false) = true; rw [yg]; rfl), (Gives.val ?_ : Gives _ _ _ (.bool true) _)⟩
                  (go_simp; have hkm := HKM.out; omega)
                rcases i with _ | i
                · obtain rfl := Option.some.inj ho
                  have e20 : ρ (.tmp 41) = .bool true := (hdep ⟨20, .data⟩ (by simp) rfl).1 41 rfl
                  have yg : y 18 = some false := (hdep ⟨18, .guard⟩ (by simp) rfl).2 39 rfl
                  clear hdep hout
                  refine .inl ⟨(by show (y 18 == some false) = true; rw [yg]; rfl), (Gives.val ?_ : Gives _ _ _ (.bool true) _)⟩
                  go_simp
                rcases i with _ | i
                · obtain rfl := Option.some.inj ho
                  have o5 : ρ (.tmp 5) = .pointer (some ⟨x0.heap.size, 0, none⟩) := hout (.tmp 5) rfl
                  have yg : y 21 = some true := (hdep ⟨21, .guard⟩ (by simp) rfl).2 42 rfl
                  clear hdep hout
                  refine .inl ⟨(by show (y 21 == some true) = true; rw [yg]; rfl), (Gives.val ?_ : Gives _ _ _ (.pointer (some ⟨x0.heap.size, 3, none⟩)) _)⟩
                  go_simp
                rcases i with _ | i
                · obtain rfl := Option.some.inj ho
                  have e22 : ρ (.tmp 43) = .pointer (some ⟨x0.heap.size, 3, none⟩) := (hdep ⟨22, .data⟩ (by simp) rfl).1 43 rfl
                  have yg : y 21 = some true := (hdep ⟨21, .guard⟩ (by simp) rfl).2 42 rfl
                  clear hdep hout
                  have kb := KB.out.later hBx
                  have c3 := kb.c 3 _ rfl
                  have c4 := kb.c 4 _ rfl
                  have cl0 := kb.lt
                  refine .inl ⟨(by show (y 21 == some true) = true; rw [yg]; rfl), (Gives.val ?_ : Gives _ _ _ (.slice (some ⟨g, o, none⟩) ns cs) _)⟩
                  go_simp
                rcases i with _ | i
                · obtain rfl := Option.some.inj ho
                  have o7 : ρ (.tmp 7) = .int .i64 ↑k := hout (.tmp 7) rfl
                  have yg : y 21 = some true := (hdep ⟨21, .guard⟩ (by simp) rfl).2 42 rfl
                  clear hdep hout
                  refine .inl ⟨(by show (y 21 == some true) = true; rw [yg]; rfl), (Gives.val ?_ : Gives _ _ _ (.int .i64 ↑k) _)⟩
                  go_simp
                rcases i with _ | i
                · obtain rfl := Option.some.inj ho
                  have e24 : ρ (.tmp 45) = .int .i64 ↑k := (hdep ⟨24, .data⟩ (by simp) rfl).1 45 rfl
                  have yg : y 21 = some true := (hdep ⟨21, .guard⟩ (by simp) rfl).2 42 rfl
                  have ocn : ∀ v, ρ (.const v) = v := fun v => hout (.const v) rfl
                  clear hdep hout
                  refine .inl ⟨(by show (y 21 == some true) = true; rw [yg]; rfl), (Gives.val ?_ : Gives _ _ _ (.int .i64 ↑km) _)⟩
                  (go_simp; have hkm := HKM.out; exact (IntWalk.i64_in _ (by omega)).trans (by omega))
                rcases i with _ | i
                · obtain rfl := Option.some.inj ho
                  have e23 : ρ (.tmp 44) = .slice (some ⟨g, o, none⟩) ns cs := (hdep ⟨23, .data⟩ (by simp) rfl).1 44 rfl
                  have e25 : ρ (.tmp 46) = .int .i64 ↑km := (hdep ⟨25, .data⟩ (by simp) rfl).1 46 rfl
                  have yg : y 21 = some true := (hdep ⟨21, .guard⟩ (by simp) rfl).2 42 rfl
                  clear hdep hout
                  refine .inl ⟨(by show (y 21 == some true) = true; rw [yg]; rfl), (Gives.val ?_ : Gives _ _ _ (.pointer (some ⟨g, o + km * 3, none⟩)) _)⟩
                  go_simp
                rcases i with _ | i
                · obtain rfl := Option.some.inj ho
                  have e26 : ρ (.tmp 47) = .pointer (some ⟨g, o + km * 3, none⟩) := (hdep ⟨26, .data⟩ (by simp) rfl).1 47 rfl
                  have yg : y 21 = some true := (hdep ⟨21, .guard⟩ (by simp) rfl).2 42 rfl
                  clear hdep hout
                  have hbz := (HB.out.trans (hBx.mono HB.out.size))
                  have jp0 := (hbz.cell (p := ⟨g, o + km * 3, none⟩) hgx).trans p0
                  have jp1 := (hbz.cell (p := ⟨g, o + km * 3 + 1, none⟩) hgx).trans p1
                  have jp2 := (hbz.cell (p := ⟨g, o + km * 3 + 2, none⟩) hgx).trans p2
                  refine .inl ⟨(by show (y 21 == some true) = true; rw [yg]; rfl), (Gives.val ?_ : Gives _ _ _ (.agg #[.int .i64 t0, .int .i64 t1, .int .i64 t2]) _)⟩
                  go_simp
                rcases i with _ | i
                · obtain rfl := Option.some.inj ho
                  have o5 : ρ (.tmp 5) = .pointer (some ⟨x0.heap.size, 0, none⟩) := hout (.tmp 5) rfl
                  have yg : y 21 = some true := (hdep ⟨21, .guard⟩ (by simp) rfl).2 42 rfl
                  clear hdep hout
                  refine .inl ⟨(by show (y 21 == some true) = true; rw [yg]; rfl), (Gives.val ?_ : Gives _ _ _ (.pointer (some ⟨x0.heap.size, 3, none⟩)) _)⟩
                  go_simp
                rcases i with _ | i
                · obtain rfl := Option.some.inj ho
                  have e28 : ρ (.tmp 49) = .pointer (some ⟨x0.heap.size, 3, none⟩) := (hdep ⟨28, .data⟩ (by simp) rfl).1 49 rfl
                  have yg : y 21 = some true := (hdep ⟨21, .guard⟩ (by simp) rfl).2 42 rfl
                  clear hdep hout
                  have kb := KB.out.later hBx
                  have c3 := kb.c 3 _ rfl
                  have c4 := kb.c 4 _ rfl
                  have cl0 := kb.lt
                  refine .inl ⟨(by show (y 21 == some true) = true; rw [yg]; rfl), (Gives.val ?_ : Gives _ _ _ (.slice (some ⟨g, o, none⟩) ns cs) _)⟩
                  go_simp
                rcases i with _ | i
                · obtain rfl := Option.some.inj ho
                  have o7 : ρ (.tmp 7) = .int .i64 ↑k := hout (.tmp 7) rfl
                  have yg : y 21 = some true := (hdep ⟨21, .guard⟩ (by simp) rfl).2 42 rfl
                  clear hdep hout
                  refine .inl ⟨(by show (y 21 == some true) = true; rw [yg]; rfl), (Gives.val ?_ : Gives _ _ _ (.int .i64 ↑k) _)⟩
                  go_simp
                rcases i with _ | i
                · obtain rfl := Option.some.inj ho
                  have e29 : ρ (.tmp 50) = .slice (some ⟨g, o, none⟩) ns cs := (hdep ⟨29, .data⟩ (by simp) rfl).1 50 rfl
                  have e30 : ρ (.tmp 51) = .int .i64 ↑k := (hdep ⟨30, .data⟩ (by simp) rfl).1 51 rfl
                  have yg : y 21 = some true := (hdep ⟨21, .guard⟩ (by simp) rfl).2 42 rfl
                  clear hdep hout
                  refine .inl ⟨(by show (y 21 == some true) = true; rw [yg]; rfl), (Gives.val ?_ : Gives _ _ _ (.pointer (some ⟨g, o + k * 3, none⟩)) _)⟩
                  go_simp
                rcases i with _ | i
                · obtain rfl := Option.some.inj ho
                  have e31 : ρ (.tmp 52) = .pointer (some ⟨g, o + k * 3, none⟩) := (hdep ⟨31, .data⟩ (by simp) rfl).1 52 rfl
                  have yg : y 21 = some true := (hdep ⟨21, .guard⟩ (by simp) rfl).2 42 rfl
                  clear hdep hout
                  have hbz := (HB.out.trans (hBx.mono HB.out.size))
                  have jq0 := (hbz.cell (p := ⟨g, o + k * 3, none⟩) hgx).trans q0
                  have jq1 := (hbz.cell (p := ⟨g, o + k * 3 + 1, none⟩) hgx).trans q1
                  have jq2 := (hbz.cell (p := ⟨g, o + k * 3 + 2, none⟩) hgx).trans q2
                  refine .inl ⟨(by show (y 21 == some true) = true; rw [yg]; rfl), (Gives.val ?_ : Gives _ _ _ (.agg #[.int .i64 s0, .int .i64 s1, .int .i64 s2]) _)⟩
                  go_simp
                rcases i with _ | i
                · obtain rfl := Option.some.inj ho
                  have e27 : ρ (.tmp 48) = .agg #[.int .i64 t0, .int .i64 t1, .int .i64 t2] := (hdep ⟨27, .data⟩ (by simp) rfl).1 48 rfl
                  have e32 : ρ (.tmp 53) = .agg #[.int .i64 s0, .int .i64 s1, .int .i64 s2] := (hdep ⟨32, .data⟩ (by simp) rfl).1 53 rfl
                  have yg : y 21 = some true := (hdep ⟨21, .guard⟩ (by simp) rfl).2 42 rfl
                  have ofn : ∀ f, ρ (.func f) = .func (.func f) #[] #[] := fun f => hout (.func f) rfl
                  clear hdep hout
                  refine .inl ⟨?_, ?_⟩
                  · show (y 21 == some true) = true
                    rw [yg]; rfl
                  show Gives _ _ _ (.bool false) _
                  refine Gives.call (HSL.out x) ?_
                  go_simp
                rcases i with _ | i
                · obtain rfl := Option.some.inj ho
                  have e33 : ρ (.tmp 54) = .bool false := (hdep ⟨33, .data⟩ (by simp) rfl).1 54 rfl
                  have yg : y 21 = some true := (hdep ⟨21, .guard⟩ (by simp) rfl).2 42 rfl
                  clear hdep hout
                  refine .inl ⟨(by show (y 21 == some true) = true; rw [yg]; rfl), (Gives.val ?_ : Gives _ _ _ (.bool true) _)⟩
                  go_simp
                rcases i with _ | i
                · obtain rfl := Option.some.inj ho
                  have e21 : ρ (.tmp 42) = .bool true := (hdep ⟨21, .data⟩ (by simp) rfl).1 42 rfl
                  have e34 : ρ (.tmp 55) = .bool true := (hdep ⟨34, .data⟩ (by simp) rfl).1 55 rfl
                  have yg : y 18 = some false := (hdep ⟨18, .guard⟩ (by simp) rfl).2 39 rfl
                  have ocn : ∀ v, ρ (.const v) = v := fun v => hout (.const v) rfl
                  clear hdep hout
                  refine .inl ⟨(by show (y 18 == some false) = true; rw [yg]; rfl), (Gives.val ?_ : Gives _ _ _ (.bool true) _)⟩
                  go_simp
                rcases i with _ | i
                · obtain rfl := Option.some.inj ho
                  have e18 : ρ (.tmp 39) = .bool false := (hdep ⟨18, .data⟩ (by simp) rfl).1 39 rfl
                  have e35 : ρ (.tmp 56) = .bool true := (hdep ⟨35, .data⟩ (by simp) rfl).1 56 rfl
                  have ocn : ∀ v, ρ (.const v) = v := fun v => hout (.const v) rfl
                  clear hdep hout
                  refine .inl ⟨rfl, (Gives.val ?_ : Gives _ _ _ (.bool true) _)⟩
                  go_simp
                cases ho
              case fin =>
                intro x hBx
                have hBf := (HB.out.trans (hBx.mono HB.out.size))
                go_wp2_with fail
                go_ret
                exact ⟨ret_bool (HFN.out (by rw [HI2.out, h7])).symm, hBf⟩
            · have HSL : Hid (∀ z : World, Calls Tryz.prog 51 #[.agg #[.int .i64 t0, .int .i64 t1, .int .i64 t2], .agg #[.int .i64 s0, .int .i64 s1, .int .i64 s2]] z fun e y => e = .returned (.bool true) ∧ Below z.heap.size z y) := fun z => by have := siteLess_any (t0, t1, t2) (s0, s1, s2) z; rw [h7] at this; exact this
              refine wp_region_vals (by kernel_rfl) (by kernel_rfl) (by kernel_rfl) (by kernel_rfl) (fun j => [.pointer (some ⟨x0.heap.size, 3, none⟩), .slice (some ⟨g, o, none⟩) ns cs, .int .i64 ↑k, .pointer (some ⟨g, o + k * 3, none⟩), .pointer (some ⟨g, o + k * 3, none⟩), .int .i64 s0, .int .i64 ↑k0, .bool false, .bool false, .slice pp pn cp, .pointer (some ⟨x0.heap.size, 3, none⟩), .slice (some ⟨g, o, none⟩) ns cs, .int .i64 ↑k, .pointer (some ⟨g, o + k * 3, none⟩), .agg #[.int .i64 s0, .int .i64 s1, .int .i64 s2], .bool true, .bool false, .bool false, .bool false, .int .i64 ↑k, .bool true, .bool true, .pointer (some ⟨x0.heap.size, 3, none⟩), .slice (some ⟨g, o, none⟩) ns cs, .int .i64 ↑k, .int .i64 ↑km, .pointer (some ⟨g, o + km * 3, none⟩), .agg #[.int .i64 t0, .int .i64 t1, .int .i64 t2], .pointer (some ⟨x0.heap.size, 3, none⟩), .slice (some ⟨g, o, none⟩) ns cs, .int .i64 ↑k, .pointer (some ⟨g, o + k * 3, none⟩), .agg #[.int .i64 s0, .int .i64 s1, .int .i64 s2], .bool true, .bool false, .bool false, .bool false].getD j undef) wr (Below.drew (Below.refl _ _)) ?step ⟨#[.slice pp pn cp, .int .i64 ↑k0, .agg #[.bool a, .int .i64 l, .int .i64 uu, .slice (some ⟨g, o, none⟩) ns cs, .slice pc nc cc], undef, undef, .pointer (some ⟨x0.heap.size, 0, none⟩), u6, .int .i64 ↑k, undef, undef, .pointer (some ⟨x0.heap.size, 0, none⟩), .agg #[.bool a, .int .i64 l, .int .i64 uu], .bool true, .bool false, .int .i64 ↑k, .pointer (some ⟨x0.heap.size, 3, none⟩), .slice (some ⟨g, o, none⟩) ns cs, .int .i64 ↑ns, .bool true, u19, u20, .pointer (some ⟨x0.heap.size, 3, none⟩), .slice (some ⟨g, o, none⟩) ns cs, .int .i64 ↑k, .pointer (some ⟨g, o + k * 3, none⟩), .pointer (some ⟨g, o + k * 3, none⟩), .int .i64 s0, .int .i64 ↑k0, .bool false, .bool false, .slice pp pn cp, .pointer (some ⟨x0.heap.size, 3, none⟩), .slice (some ⟨g, o, none⟩) ns cs, .int .i64 ↑k, .pointer (some ⟨g, o + k * 3, none⟩), .agg #[.int .i64 s0, .int .i64 s1, .int .i64 s2], .bool true, .bool false, .bool false, .bool false, .int .i64 ↑k, .bool true, .bool true, .pointer (some ⟨x0.heap.size, 3, none⟩), .slice (some ⟨g, o, none⟩) ns cs, .int .i64 ↑k, .int .i64 ↑km, .pointer (some ⟨g, o + km * 3, none⟩), .agg #[.int .i64 t0, .int .i64 t1, .int .i64 t2], .pointer (some ⟨x0.heap.size, 3, none⟩), .slice (some ⟨g, o, none⟩) ns cs, .int .i64 ↑k, .pointer (some ⟨g, o + k * 3, none⟩), .agg #[.int .i64 s0, .int .i64 s1, .int .i64 s2], .bool true, .bool false, .bool false, .bool false, undef, undef, undef, undef, undef, undef, undef, undef, undef, undef, undef, undef, undef, undef, undef, undef, undef, undef, undef, undef, undef, undef, undef, undef, undef, undef, undef, undef, undef, undef, undef, undef, undef, undef, undef, undef, undef, undef, undef, undef, undef, undef, undef, undef, undef, undef, undef, undef], []⟩ (by kernel_rfl) ?fin
              case step =>
                intro i o ho ρ y x hBx hdep hout
                rcases i with _ | i
                · obtain rfl := Option.some.inj ho
                  have o5 : ρ (.tmp 5) = .pointer (some ⟨x0.heap.size, 0, none⟩) := hout (.tmp 5) rfl
                  clear hdep hout
                  refine .inl ⟨rfl, (Gives.val ?_ : Gives _ _ _ (.pointer (some ⟨x0.heap.size, 3, none⟩)) _)⟩
                  go_simp
                rcases i with _ | i
                · obtain rfl := Option.some.inj ho
                  have e0 : ρ (.tmp 21) = .pointer (some ⟨x0.heap.size, 3, none⟩) := (hdep ⟨0, .data⟩ (by simp) rfl).1 21 rfl
                  clear hdep hout
                  have kb := KB.out.later hBx
                  have c3 := kb.c 3 _ rfl
                  have c4 := kb.c 4 _ rfl
                  have cl0 := kb.lt
                  refine .inl ⟨rfl, (Gives.val ?_ : Gives _ _ _ (.slice (some ⟨g, o, none⟩) ns cs) _)⟩
                  go_simp
                rcases i with _ | i
                · obtain rfl := Option.some.inj ho
                  have o7 : ρ (.tmp 7) = .int .i64 ↑k := hout (.tmp 7) rfl
                  clear hdep hout
                  refine .inl ⟨rfl, (Gives.val ?_ : Gives _ _ _ (.int .i64 ↑k) _)⟩
                  go_simp
                rcases i with _ | i
                · obtain rfl := Option.some.inj ho
                  have e1 : ρ (.tmp 22) = .slice (some ⟨g, o, none⟩) ns cs := (hdep ⟨1, .data⟩ (by simp) rfl).1 22 rfl
                  have e2 : ρ (.tmp 23) = .int .i64 ↑k := (hdep ⟨2, .data⟩ (by simp) rfl).1 23 rfl
                  clear hdep hout
                  refine .inl ⟨rfl, (Gives.val ?_ : Gives _ _ _ (.pointer (some ⟨g, o + k * 3, none⟩)) _)⟩
                  go_simp
                rcases i with _ | i
                · obtain rfl := Option.some.inj ho
                  have e3 : ρ (.tmp 24) = .pointer (some ⟨g, o + k * 3, none⟩) := (hdep ⟨3, .data⟩ (by simp) rfl).1 24 rfl
                  clear hdep hout
                  refine .inl ⟨rfl, (Gives.val ?_ : Gives _ _ _ (.pointer (some ⟨g, o + k * 3, none⟩)) _)⟩
                  go_simp
                rcases i with _ | i
                · obtain rfl := Option.some.inj ho
                  have e4 : ρ (.tmp 25) = .pointer (some ⟨g, o + k * 3, none⟩) := (hdep ⟨4, .data⟩ (by simp) rfl).1 25 rfl
                  clear hdep hout
                  have hbz := (HB.out.trans (hBx.mono HB.out.size))
                  have jq0 := (hbz.cell (p := ⟨g, o + k * 3, none⟩) hgx).trans q0
                  have jq1 := (hbz.cell (p := ⟨g, o + k * 3 + 1, none⟩) hgx).trans q1
                  have jq2 := (hbz.cell (p := ⟨g, o + k * 3 + 2, none⟩) hgx).trans q2
                  refine .inl ⟨rfl, (Gives.val ?_ : Gives _ _ _ (.int .i64 s0) _)⟩
                  go_simp
                rcases i with _ | i
                · obtain rfl := Option.some.inj ho
                  have o1 : ρ (.tmp 1) = .int .i64 ↑k0 := hout (.tmp 1) rfl
                  clear hdep hout
                  refine .inl ⟨rfl, (Gives.val ?_ : Gives _ _ _ (.int .i64 ↑k0) _)⟩
                  go_simp
                rcases i with _ | i
                · obtain rfl := Option.some.inj ho
                  have e5 : ρ (.tmp 26) = .int .i64 s0 := (hdep ⟨5, .data⟩ (by simp) rfl).1 26 rfl
                  have e6 : ρ (.tmp 27) = .int .i64 ↑k0 := (hdep ⟨6, .data⟩ (by simp) rfl).1 27 rfl
                  clear hdep hout
                  refine .inl ⟨rfl, (Gives.val ?_ : Gives _ _ _ (.bool false) _)⟩
                  go_simp
                rcases i with _ | i
                · obtain rfl := Option.some.inj ho
                  have e7 : ρ (.tmp 28) = .bool false := (hdep ⟨7, .data⟩ (by simp) rfl).1 28 rfl
                  clear hdep hout
                  refine .inl ⟨rfl, (Gives.val ?_ : Gives _ _ _ (.bool false) _)⟩
                  go_simp
                rcases i with _ | i
                · obtain rfl := Option.some.inj ho
                  have o0 : ρ (.tmp 0) = .slice pp pn cp := hout (.tmp 0) rfl
                  have yg : y 8 = some false := (hdep ⟨8, .guard⟩ (by simp) rfl).2 29 rfl
                  clear hdep hout
                  refine .inl ⟨(by show (y 8 == some false) = true; rw [yg]; rfl), (Gives.val ?_ : Gives _ _ _ (.slice pp pn cp) _)⟩
                  go_simp
                rcases i with _ | i
                · obtain rfl := Option.some.inj ho
                  have o5 : ρ (.tmp 5) = .pointer (some ⟨x0.heap.size, 0, none⟩) := hout (.tmp 5) rfl
                  have yg : y 8 = some false := (hdep ⟨8, .guard⟩ (by simp) rfl).2 29 rfl
                  clear hdep hout
                  refine .inl ⟨(by show (y 8 == some false) = true; rw [yg]; rfl), (Gives.val ?_ : Gives _ _ _ (.pointer (some ⟨x0.heap.size, 3, none⟩)) _)⟩
                  go_simp
                rcases i with _ | i
                · obtain rfl := Option.some.inj ho
                  have e10 : ρ (.tmp 31) = .pointer (some ⟨x0.heap.size, 3, none⟩) := (hdep ⟨10, .data⟩ (by simp) rfl).1 31 rfl
                  have yg : y 8 = some false := (hdep ⟨8, .guard⟩ (by simp) rfl).2 29 rfl
                  clear hdep hout
                  have kb := KB.out.later hBx
                  have c3 := kb.c 3 _ rfl
                  have c4 := kb.c 4 _ rfl
                  have cl0 := kb.lt
                  refine .inl ⟨(by show (y 8 == some false) = true; rw [yg]; rfl), (Gives.val ?_ : Gives _ _ _ (.slice (some ⟨g, o, none⟩) ns cs) _)⟩
                  go_simp
                rcases i with _ | i
                · obtain rfl := Option.some.inj ho
                  have o7 : ρ (.tmp 7) = .int .i64 ↑k := hout (.tmp 7) rfl
                  have yg : y 8 = some false := (hdep ⟨8, .guard⟩ (by simp) rfl).2 29 rfl
                  clear hdep hout
                  refine .inl ⟨(by show (y 8 == some false) = true; rw [yg]; rfl), (Gives.val ?_ : Gives _ _ _ (.int .i64 ↑k) _)⟩
                  go_simp
                rcases i with _ | i
                · obtain rfl := Option.some.inj ho
                  have e11 : ρ (.tmp 32) = .slice (some ⟨g, o, none⟩) ns cs := (hdep ⟨11, .data⟩ (by simp) rfl).1 32 rfl
                  have e12 : ρ (.tmp 33) = .int .i64 ↑k := (hdep ⟨12, .data⟩ (by simp) rfl).1 33 rfl
                  have yg : y 8 = some false := (hdep ⟨8, .guard⟩ (by simp) rfl).2 29 rfl
                  clear hdep hout
                  refine .inl ⟨(by show (y 8 == some false) = true; rw [yg]; rfl), (Gives.val ?_ : Gives _ _ _ (.pointer (some ⟨g, o + k * 3, none⟩)) _)⟩
                  go_simp
                rcases i with _ | i
                · obtain rfl := Option.some.inj ho
                  have e13 : ρ (.tmp 34) = .pointer (some ⟨g, o + k * 3, none⟩) := (hdep ⟨13, .data⟩ (by simp) rfl).1 34 rfl
                  have yg : y 8 = some false := (hdep ⟨8, .guard⟩ (by simp) rfl).2 29 rfl
                  clear hdep hout
                  have hbz := (HB.out.trans (hBx.mono HB.out.size))
                  have jq0 := (hbz.cell (p := ⟨g, o + k * 3, none⟩) hgx).trans q0
                  have jq1 := (hbz.cell (p := ⟨g, o + k * 3 + 1, none⟩) hgx).trans q1
                  have jq2 := (hbz.cell (p := ⟨g, o + k * 3 + 2, none⟩) hgx).trans q2
                  refine .inl ⟨(by show (y 8 == some false) = true; rw [yg]; rfl), (Gives.val ?_ : Gives _ _ _ (.agg #[.int .i64 s0, .int .i64 s1, .int .i64 s2]) _)⟩
                  go_simp
                rcases i with _ | i
                · obtain rfl := Option.some.inj ho
                  have e9 : ρ (.tmp 30) = .slice pp pn cp := (hdep ⟨9, .data⟩ (by simp) rfl).1 30 rfl
                  have e14 : ρ (.tmp 35) = .agg #[.int .i64 s0, .int .i64 s1, .int .i64 s2] := (hdep ⟨14, .data⟩ (by simp) rfl).1 35 rfl
                  have yg : y 8 = some false := (hdep ⟨8, .guard⟩ (by simp) rfl).2 29 rfl
                  have ofn : ∀ f, ρ (.func f) = .func (.func f) #[] #[] := fun f => hout (.func f) rfl
                  clear hdep hout
                  refine .inl ⟨?_, ?_⟩
                  · show (y 8 == some false) = true
                    rw [yg]; rfl
                  show Gives _ _ _ (.bool true) _
                  refine Gives.call (HSO.out x (HB.out.trans (hBx.mono HB.out.size))) ?_
                  go_simp
                rcases i with _ | i
                · obtain rfl := Option.some.inj ho
                  have e15 : ρ (.tmp 36) = .bool true := (hdep ⟨15, .data⟩ (by simp) rfl).1 36 rfl
                  have yg : y 8 = some false := (hdep ⟨8, .guard⟩ (by simp) rfl).2 29 rfl
                  clear hdep hout
                  refine .inl ⟨(by show (y 8 == some false) = true; rw [yg]; rfl), (Gives.val ?_ : Gives _ _ _ (.bool false) _)⟩
                  go_simp
                rcases i with _ | i
                · obtain rfl := Option.some.inj ho
                  have e8 : ρ (.tmp 29) = .bool false := (hdep ⟨8, .data⟩ (by simp) rfl).1 29 rfl
                  have e16 : ρ (.tmp 37) = .bool false := (hdep ⟨16, .data⟩ (by simp) rfl).1 37 rfl
                  have ocn : ∀ v, ρ (.const v) = v := fun v => hout (.const v) rfl
                  clear hdep hout
                  refine .inl ⟨rfl, (Gives.val ?_ : Gives _ _ _ (.bool false) _)⟩
                  go_simp
                rcases i with _ | i
                · obtain rfl := Option.some.inj ho
                  have e17 : ρ (.tmp 38) = .bool false := (hdep ⟨17, .data⟩ (by simp) rfl).1 38 rfl
                  clear hdep hout
                  refine .inl ⟨rfl, (Gives.val ?_ : Gives _ _ _ (.bool false) _)⟩
                  go_simp
                rcases i with _ | i
                · obtain rfl := Option.some.inj ho
                  have o7 : ρ (.tmp 7) = .int .i64 ↑k := hout (.tmp 7) rfl
                  have yg : y 18 = some false := (hdep ⟨18, .guard⟩ (by simp) rfl).2 39 rfl
                  clear hdep hout
                  refine .inl ⟨(by show (y 18 == some false) = true; rw [yg]; rfl), (Gives.val ?_ : Gives _ _ _ (.int .i64 ↑k) _)⟩
                  go_simp
                rcases i with _ | i
                · obtain rfl := Option.some.inj ho
                  have e19 : ρ (.tmp 40) = .int .i64 ↑k := (hdep ⟨19, .data⟩ (by simp) rfl).1 40 rfl
                  have yg : y 18 = some false := (hdep ⟨18, .guard⟩ (by simp) rfl).2 39 rfl
                  have ocn : ∀ v, ρ (.const v) = v := fun v => hout (.const v) rfl
                  clear hdep hout
                  refine .inl ⟨(by show (y 18 == some false) = true; rw [yg]; rfl), (Gives.val ?_ : Gives _ _ _ (.bool true) _)⟩
                  (go_simp; have hkm := HKM.out; omega)
                rcases i with _ | i
                · obtain rfl := Option.some.inj ho
                  have e20 : ρ (.tmp 41) = .bool true := (hdep ⟨20, .data⟩ (by simp) rfl).1 41 rfl
                  have yg : y 18 = some false := (hdep ⟨18, .guard⟩ (by simp) rfl).2 39 rfl
                  clear hdep hout
                  refine .inl ⟨(by show (y 18 == some false) = true; rw [yg]; rfl), (Gives.val ?_ : Gives _ _ _ (.bool true) _)⟩
                  go_simp
                rcases i with _ | i
                · obtain rfl := Option.some.inj ho
                  have o5 : ρ (.tmp 5) = .pointer (some ⟨x0.heap.size, 0, none⟩) := hout (.tmp 5) rfl
                  have yg : y 21 = some true := (hdep ⟨21, .guard⟩ (by simp) rfl).2 42 rfl
                  clear hdep hout
                  refine .inl ⟨(by show (y 21 == some true) = true; rw [yg]; rfl), (Gives.val ?_ : Gives _ _ _ (.pointer (some ⟨x0.heap.size, 3, none⟩)) _)⟩
                  go_simp
                rcases i with _ | i
                · obtain rfl := Option.some.inj ho
                  have e22 : ρ (.tmp 43) = .pointer (some ⟨x0.heap.size, 3, none⟩) := (hdep ⟨22, .data⟩ (by simp) rfl).1 43 rfl
                  have yg : y 21 = some true := (hdep ⟨21, .guard⟩ (by simp) rfl).2 42 rfl
                  clear hdep hout
                  have kb := KB.out.later hBx
                  have c3 := kb.c 3 _ rfl
                  have c4 := kb.c 4 _ rfl
                  have cl0 := kb.lt
                  refine .inl ⟨(by show (y 21 == some true) = true; rw [yg]; rfl), (Gives.val ?_ : Gives _ _ _ (.slice (some ⟨g, o, none⟩) ns cs) _)⟩
                  go_simp
                rcases i with _ | i
                · obtain rfl := Option.some.inj ho
                  have o7 : ρ (.tmp 7) = .int .i64 ↑k := hout (.tmp 7) rfl
                  have yg : y 21 = some true := (hdep ⟨21, .guard⟩ (by simp) rfl).2 42 rfl
                  clear hdep hout
                  refine .inl ⟨(by show (y 21 == some true) = true; rw [yg]; rfl), (Gives.val ?_ : Gives _ _ _ (.int .i64 ↑k) _)⟩
                  go_simp
                rcases i with _ | i
                · obtain rfl := Option.some.inj ho
                  have e24 : ρ (.tmp 45) = .int .i64 ↑k := (hdep ⟨24, .data⟩ (by simp) rfl).1 45 rfl
                  have yg : y 21 = some true := (hdep ⟨21, .guard⟩ (by simp) rfl).2 42 rfl
                  have ocn : ∀ v, ρ (.const v) = v := fun v => hout (.const v) rfl
                  clear hdep hout
                  refine .inl ⟨(by show (y 21 == some true) = true; rw [yg]; rfl), (Gives.val ?_ : Gives _ _ _ (.int .i64 ↑km) _)⟩
                  (go_simp; have hkm := HKM.out; exact (IntWalk.i64_in _ (by omega)).trans (by omega))
                rcases i with _ | i
                · obtain rfl := Option.some.inj ho
                  have e23 : ρ (.tmp 44) = .slice (some ⟨g, o, none⟩) ns cs := (hdep ⟨23, .data⟩ (by simp) rfl).1 44 rfl
                  have e25 : ρ (.tmp 46) = .int .i64 ↑km := (hdep ⟨25, .data⟩ (by simp) rfl).1 46 rfl
                  have yg : y 21 = some true := (hdep ⟨21, .guard⟩ (by simp) rfl).2 42 rfl
                  clear hdep hout
                  refine .inl ⟨(by show (y 21 == some true) = true; rw [yg]; rfl), (Gives.val ?_ : Gives _ _ _ (.pointer (some ⟨g, o + km * 3, none⟩)) _)⟩
                  go_simp
                rcases i with _ | i
                · obtain rfl := Option.some.inj ho
                  have e26 : ρ (.tmp 47) = .pointer (some ⟨g, o + km * 3, none⟩) := (hdep ⟨26, .data⟩ (by simp) rfl).1 47 rfl
                  have yg : y 21 = some true := (hdep ⟨21, .guard⟩ (by simp) rfl).2 42 rfl
                  clear hdep hout
                  have hbz := (HB.out.trans (hBx.mono HB.out.size))
                  have jp0 := (hbz.cell (p := ⟨g, o + km * 3, none⟩) hgx).trans p0
                  have jp1 := (hbz.cell (p := ⟨g, o + km * 3 + 1, none⟩) hgx).trans p1
                  have jp2 := (hbz.cell (p := ⟨g, o + km * 3 + 2, none⟩) hgx).trans p2
                  refine .inl ⟨(by show (y 21 == some true) = true; rw [yg]; rfl), (Gives.val ?_ : Gives _ _ _ (.agg #[.int .i64 t0, .int .i64 t1, .int .i64 t2]) _)⟩
                  go_simp
                rcases i with _ | i
                · obtain rfl := Option.some.inj ho
                  have o5 : ρ (.tmp 5) = .pointer (some ⟨x0.heap.size, 0, none⟩) := hout (.tmp 5) rfl
                  have yg : y 21 = some true := (hdep ⟨21, .guard⟩ (by simp) rfl).2 42 rfl
                  clear hdep hout
                  refine .inl ⟨(by show (y 21 == some true) = true; rw [yg]; rfl), (Gives.val ?_ : Gives _ _ _ (.pointer (some ⟨x0.heap.size, 3, none⟩)) _)⟩
                  go_simp
                rcases i with _ | i
                · obtain rfl := Option.some.inj ho
                  have e28 : ρ (.tmp 49) = .pointer (some ⟨x0.heap.size, 3, none⟩) := (hdep ⟨28, .data⟩ (by simp) rfl).1 49 rfl
                  have yg : y 21 = some true := (hdep ⟨21, .guard⟩ (by simp) rfl).2 42 rfl
                  clear hdep hout
                  have kb := KB.out.later hBx
                  have c3 := kb.c 3 _ rfl
                  have c4 := kb.c 4 _ rfl
                  have cl0 := kb.lt
                  refine .inl ⟨(by show (y 21 == some true) = true; rw [yg]; rfl), (Gives.val ?_ : Gives _ _ _ (.slice (some ⟨g, o, none⟩) ns cs) _)⟩
                  go_simp
                rcases i with _ | i
                · obtain rfl := Option.some.inj ho
                  have o7 : ρ (.tmp 7) = .int .i64 ↑k := hout (.tmp 7) rfl
                  have yg : y 21 = some true := (hdep ⟨21, .guard⟩ (by simp) rfl).2 42 rfl
                  clear hdep hout
                  refine .inl ⟨(by show (y 21 == some true) = true; rw [yg]; rfl), (Gives.val ?_ : Gives _ _ _ (.int .i64 ↑k) _)⟩
                  go_simp
                rcases i with _ | i
                · obtain rfl := Option.some.inj ho
                  have e29 : ρ (.tmp 50) = .slice (some ⟨g, o, none⟩) ns cs := (hdep ⟨29, .data⟩ (by simp) rfl).1 50 rfl
                  have e30 : ρ (.tmp 51) = .int .i64 ↑k := (hdep ⟨30, .data⟩ (by simp) rfl).1 51 rfl
                  have yg : y 21 = some true := (hdep ⟨21, .guard⟩ (by simp) rfl).2 42 rfl
                  clear hdep hout
                  refine .inl ⟨(by show (y 21 == some true) = true; rw [yg]; rfl), (Gives.val ?_ : Gives _ _ _ (.pointer (some ⟨g, o + k * 3, none⟩)) _)⟩
                  go_simp
                rcases i with _ | i
                · obtain rfl := Option.some.inj ho
                  have e31 : ρ (.tmp 52) = .pointer (some ⟨g, o + k * 3, none⟩) := (hdep ⟨31, .data⟩ (by simp) rfl).1 52 rfl
                  have yg : y 21 = some true := (hdep ⟨21, .guard⟩ (by simp) rfl).2 42 rfl
                  clear hdep hout
                  have hbz := (HB.out.trans (hBx.mono HB.out.size))
                  have jq0 := (hbz.cell (p := ⟨g, o + k * 3, none⟩) hgx).trans q0
                  have jq1 := (hbz.cell (p := ⟨g, o + k * 3 + 1, none⟩) hgx).trans q1
                  have jq2 := (hbz.cell (p := ⟨g, o + k * 3 + 2, none⟩) hgx).trans q2
                  refine .inl ⟨(by show (y 21 == some true) = true; rw [yg]; rfl), (Gives.val ?_ : Gives _ _ _ (.agg #[.int .i64 s0, .int .i64 s1, .int .i64 s2]) _)⟩
                  go_simp
                rcases i with _ | i
                · obtain rfl := Option.some.inj ho
                  have e27 : ρ (.tmp 48) = .agg #[.int .i64 t0, .int .i64 t1, .int .i64 t2] := (hdep ⟨27, .data⟩ (by simp) rfl).1 48 rfl
                  have e32 : ρ (.tmp 53) = .agg #[.int .i64 s0, .int .i64 s1, .int .i64 s2] := (hdep ⟨32, .data⟩ (by simp) rfl).1 53 rfl
                  have yg : y 21 = some true := (hdep ⟨21, .guard⟩ (by simp) rfl).2 42 rfl
                  have ofn : ∀ f, ρ (.func f) = .func (.func f) #[] #[] := fun f => hout (.func f) rfl
                  clear hdep hout
                  refine .inl ⟨?_, ?_⟩
                  · show (y 21 == some true) = true
                    rw [yg]; rfl
                  show Gives _ _ _ (.bool true) _
                  refine Gives.call (HSL.out x) ?_
                  go_simp
                rcases i with _ | i
                · obtain rfl := Option.some.inj ho
                  have e33 : ρ (.tmp 54) = .bool true := (hdep ⟨33, .data⟩ (by simp) rfl).1 54 rfl
                  have yg : y 21 = some true := (hdep ⟨21, .guard⟩ (by simp) rfl).2 42 rfl
                  clear hdep hout
                  refine .inl ⟨(by show (y 21 == some true) = true; rw [yg]; rfl), (Gives.val ?_ : Gives _ _ _ (.bool false) _)⟩
                  go_simp
                rcases i with _ | i
                · obtain rfl := Option.some.inj ho
                  have e21 : ρ (.tmp 42) = .bool true := (hdep ⟨21, .data⟩ (by simp) rfl).1 42 rfl
                  have e34 : ρ (.tmp 55) = .bool false := (hdep ⟨34, .data⟩ (by simp) rfl).1 55 rfl
                  have yg : y 18 = some false := (hdep ⟨18, .guard⟩ (by simp) rfl).2 39 rfl
                  have ocn : ∀ v, ρ (.const v) = v := fun v => hout (.const v) rfl
                  clear hdep hout
                  refine .inl ⟨(by show (y 18 == some false) = true; rw [yg]; rfl), (Gives.val ?_ : Gives _ _ _ (.bool false) _)⟩
                  go_simp
                rcases i with _ | i
                · obtain rfl := Option.some.inj ho
                  have e18 : ρ (.tmp 39) = .bool false := (hdep ⟨18, .data⟩ (by simp) rfl).1 39 rfl
                  have e35 : ρ (.tmp 56) = .bool false := (hdep ⟨35, .data⟩ (by simp) rfl).1 56 rfl
                  have ocn : ∀ v, ρ (.const v) = v := fun v => hout (.const v) rfl
                  clear hdep hout
                  refine .inl ⟨rfl, (Gives.val ?_ : Gives _ _ _ (.bool false) _)⟩
                  go_simp
                cases ho
              case fin =>
                intro x hBx
                have HBN : Hid (Below x0.heap.size x0 x) := (HB.out.trans (hBx.mono HB.out.size))
                have KBN := KB.out.laterH hBx
                clear HB KB hBx a3 l3
                go_wp2_with fail
                go_roundw
                case rel =>
                  refine ⟨k + 1, by omega, by go_num, HBN.out, KBN.out, fun j hj => ?_⟩
                  rcases (by omega : j < k ∨ j = k) with h | rfl
                  · exact hd.out j h
                  · rw [HI2.out, h7]
                case measure => simp [RowKit.intOf]; omega
      · have n0 : (s0 != (k0 : Int)) = true := by simp [h0]
        refine wp_region_vals (by kernel_rfl) (by kernel_rfl) (by kernel_rfl) (by kernel_rfl) (fun j => [.pointer (some ⟨x0.heap.size, 3, none⟩), .slice (some ⟨g, o, none⟩) ns cs, .int .i64 ↑k, .pointer (some ⟨g, o + k * 3, none⟩), .pointer (some ⟨g, o + k * 3, none⟩), .int .i64 s0, .int .i64 ↑k0, .bool true, .bool true, undef, undef, undef, undef, undef, undef, undef, undef, .bool true, .bool true, undef, undef, undef, undef, undef, undef, undef, undef, undef, undef, undef, undef, undef, undef, undef, undef, undef, .bool true].getD j undef) wr (Below.drew (Below.refl _ _)) ?step ⟨#[.slice pp pn cp, .int .i64 ↑k0, .agg #[.bool a, .int .i64 l, .int .i64 uu, .slice (some ⟨g, o, none⟩) ns cs, .slice pc nc cc], undef, undef, .pointer (some ⟨x0.heap.size, 0, none⟩), u6, .int .i64 ↑k, undef, undef, .pointer (some ⟨x0.heap.size, 0, none⟩), .agg #[.bool a, .int .i64 l, .int .i64 uu], .bool true, .bool false, .int .i64 ↑k, .pointer (some ⟨x0.heap.size, 3, none⟩), .slice (some ⟨g, o, none⟩) ns cs, .int .i64 ↑ns, .bool true, u19, u20, .pointer (some ⟨x0.heap.size, 3, none⟩), .slice (some ⟨g, o, none⟩) ns cs, .int .i64 ↑k, .pointer (some ⟨g, o + k * 3, none⟩), .pointer (some ⟨g, o + k * 3, none⟩), .int .i64 s0, .int .i64 ↑k0, .bool true, .bool true, undef, undef, undef, undef, undef, undef, undef, undef, .bool true, .bool true, undef, undef, undef, undef, undef, undef, undef, undef, undef, undef, undef, undef, undef, undef, undef, undef, undef, .bool true, undef, undef, undef, undef, undef, undef, undef, undef, undef, undef, undef, undef, undef, undef, undef, undef, undef, undef, undef, undef, undef, undef, undef, undef, undef, undef, undef, undef, undef, undef, undef, undef, undef, undef, undef, undef, undef, undef, undef, undef, undef, undef, undef, undef, undef, undef, undef, undef], []⟩ (by kernel_rfl) ?fin
        case step =>
          intro i o ho ρ y x hBx hdep hout
          rcases i with _ | i
          · obtain rfl := Option.some.inj ho
            have o5 : ρ (.tmp 5) = .pointer (some ⟨x0.heap.size, 0, none⟩) := hout (.tmp 5) rfl
            clear hdep hout
            refine .inl ⟨rfl, (Gives.val ?_ : Gives _ _ _ (.pointer (some ⟨x0.heap.size, 3, none⟩)) _)⟩
            go_simp
          rcases i with _ | i
          · obtain rfl := Option.some.inj ho
            have e0 : ρ (.tmp 21) = .pointer (some ⟨x0.heap.size, 3, none⟩) := (hdep ⟨0, .data⟩ (by simp) rfl).1 21 rfl
            clear hdep hout
            have kb := KB.out.later hBx
            have c3 := kb.c 3 _ rfl
            have c4 := kb.c 4 _ rfl
            have cl0 := kb.lt
            refine .inl ⟨rfl, (Gives.val ?_ : Gives _ _ _ (.slice (some ⟨g, o, none⟩) ns cs) _)⟩
            go_simp
          rcases i with _ | i
          · obtain rfl := Option.some.inj ho
            have o7 : ρ (.tmp 7) = .int .i64 ↑k := hout (.tmp 7) rfl
            clear hdep hout
            refine .inl ⟨rfl, (Gives.val ?_ : Gives _ _ _ (.int .i64 ↑k) _)⟩
            go_simp
          rcases i with _ | i
          · obtain rfl := Option.some.inj ho
            have e1 : ρ (.tmp 22) = .slice (some ⟨g, o, none⟩) ns cs := (hdep ⟨1, .data⟩ (by simp) rfl).1 22 rfl
            have e2 : ρ (.tmp 23) = .int .i64 ↑k := (hdep ⟨2, .data⟩ (by simp) rfl).1 23 rfl
            clear hdep hout
            refine .inl ⟨rfl, (Gives.val ?_ : Gives _ _ _ (.pointer (some ⟨g, o + k * 3, none⟩)) _)⟩
            go_simp
          rcases i with _ | i
          · obtain rfl := Option.some.inj ho
            have e3 : ρ (.tmp 24) = .pointer (some ⟨g, o + k * 3, none⟩) := (hdep ⟨3, .data⟩ (by simp) rfl).1 24 rfl
            clear hdep hout
            refine .inl ⟨rfl, (Gives.val ?_ : Gives _ _ _ (.pointer (some ⟨g, o + k * 3, none⟩)) _)⟩
            go_simp
          rcases i with _ | i
          · obtain rfl := Option.some.inj ho
            have e4 : ρ (.tmp 25) = .pointer (some ⟨g, o + k * 3, none⟩) := (hdep ⟨4, .data⟩ (by simp) rfl).1 25 rfl
            clear hdep hout
            have hbz := (HB.out.trans (hBx.mono HB.out.size))
            have jq0 := (hbz.cell (p := ⟨g, o + k * 3, none⟩) hgx).trans q0
            have jq1 := (hbz.cell (p := ⟨g, o + k * 3 + 1, none⟩) hgx).trans q1
            have jq2 := (hbz.cell (p := ⟨g, o + k * 3 + 2, none⟩) hgx).trans q2
            refine .inl ⟨rfl, (Gives.val ?_ : Gives _ _ _ (.int .i64 s0) _)⟩
            go_simp
          rcases i with _ | i
          · obtain rfl := Option.some.inj ho
            have o1 : ρ (.tmp 1) = .int .i64 ↑k0 := hout (.tmp 1) rfl
            clear hdep hout
            refine .inl ⟨rfl, (Gives.val ?_ : Gives _ _ _ (.int .i64 ↑k0) _)⟩
            go_simp
          rcases i with _ | i
          · obtain rfl := Option.some.inj ho
            have e5 : ρ (.tmp 26) = .int .i64 s0 := (hdep ⟨5, .data⟩ (by simp) rfl).1 26 rfl
            have e6 : ρ (.tmp 27) = .int .i64 ↑k0 := (hdep ⟨6, .data⟩ (by simp) rfl).1 27 rfl
            clear hdep hout
            refine .inl ⟨rfl, (Gives.val ?_ : Gives _ _ _ (.bool true) _)⟩
            go_simp
          rcases i with _ | i
          · obtain rfl := Option.some.inj ho
            have e7 : ρ (.tmp 28) = .bool true := (hdep ⟨7, .data⟩ (by simp) rfl).1 28 rfl
            clear hdep hout
            refine .inl ⟨rfl, (Gives.val ?_ : Gives _ _ _ (.bool true) _)⟩
            go_simp
          rcases i with _ | i
          · obtain rfl := Option.some.inj ho
            have yg : y 8 = some true := (hdep ⟨8, .guard⟩ (by simp) rfl).2 29 rfl
            exact .inr ⟨by show (y 8 == some false) = false; rw [yg]; rfl, rfl⟩
          rcases i with _ | i
          · obtain rfl := Option.some.inj ho
            have yg : y 8 = some true := (hdep ⟨8, .guard⟩ (by simp) rfl).2 29 rfl
            exact .inr ⟨by show (y 8 == some false) = false; rw [yg]; rfl, rfl⟩
          rcases i with _ | i
          · obtain rfl := Option.some.inj ho
            have yg : y 8 = some true := (hdep ⟨8, .guard⟩ (by simp) rfl).2 29 rfl
            exact .inr ⟨by show (y 8 == some false) = false; rw [yg]; rfl, rfl⟩
          rcases i with _ | i
          · obtain rfl := Option.some.inj ho
            have yg : y 8 = some true := (hdep ⟨8, .guard⟩ (by simp) rfl).2 29 rfl
            exact .inr ⟨by show (y 8 == some false) = false; rw [yg]; rfl, rfl⟩
          rcases i with _ | i
          · obtain rfl := Option.some.inj ho
            have yg : y 8 = some true := (hdep ⟨8, .guard⟩ (by simp) rfl).2 29 rfl
            exact .inr ⟨by show (y 8 == some false) = false; rw [yg]; rfl, rfl⟩
          rcases i with _ | i
          · obtain rfl := Option.some.inj ho
            have yg : y 8 = some true := (hdep ⟨8, .guard⟩ (by simp) rfl).2 29 rfl
            exact .inr ⟨by show (y 8 == some false) = false; rw [yg]; rfl, rfl⟩
          rcases i with _ | i
          · obtain rfl := Option.some.inj ho
            have yg : y 8 = some true := (hdep ⟨8, .guard⟩ (by simp) rfl).2 29 rfl
            exact .inr ⟨by show (y 8 == some false) = false; rw [yg]; rfl, rfl⟩
          rcases i with _ | i
          · obtain rfl := Option.some.inj ho
            have yg : y 8 = some true := (hdep ⟨8, .guard⟩ (by simp) rfl).2 29 rfl
            exact .inr ⟨by show (y 8 == some false) = false; rw [yg]; rfl, rfl⟩
          rcases i with _ | i
          · obtain rfl := Option.some.inj ho
            have e8 : ρ (.tmp 29) = .bool true := (hdep ⟨8, .data⟩ (by simp) rfl).1 29 rfl
            have e16 : ρ (.tmp 37) = undef := (hdep ⟨16, .data⟩ (by simp) rfl).1 37 rfl
            have ocn : ∀ v, ρ (.const v) = v := fun v => hout (.const v) rfl
            clear hdep hout
            refine .inl ⟨rfl, (Gives.val ?_ : Gives _ _ _ (.bool true) _)⟩
            go_simp
          rcases i with _ | i
          · obtain rfl := Option.some.inj ho
            have e17 : ρ (.tmp 38) = .bool true := (hdep ⟨17, .data⟩ (by simp) rfl).1 38 rfl
            clear hdep hout
            refine .inl ⟨rfl, (Gives.val ?_ : Gives _ _ _ (.bool true) _)⟩
            go_simp
          rcases i with _ | i
          · obtain rfl := Option.some.inj ho
            have yg : y 18 = some true := (hdep ⟨18, .guard⟩ (by simp) rfl).2 39 rfl
            exact .inr ⟨by show (y 18 == some false) = false; rw [yg]; rfl, rfl⟩
          rcases i with _ | i
          · obtain rfl := Option.some.inj ho
            have yg : y 18 = some true := (hdep ⟨18, .guard⟩ (by simp) rfl).2 39 rfl
            exact .inr ⟨by show (y 18 == some false) = false; rw [yg]; rfl, rfl⟩
          rcases i with _ | i
          · obtain rfl := Option.some.inj ho
            have yg : y 18 = some true := (hdep ⟨18, .guard⟩ (by simp) rfl).2 39 rfl
            exact .inr ⟨by show (y 18 == some false) = false; rw [yg]; rfl, rfl⟩
          rcases i with _ | i
          · obtain rfl := Option.some.inj ho
            have yg : y 21 = none := (hdep ⟨21, .guard⟩ (by simp) rfl).2 42 rfl
            exact .inr ⟨by show (y 21 == some true) = false; rw [yg]; rfl, rfl⟩
          rcases i with _ | i
          · obtain rfl := Option.some.inj ho
            have yg : y 21 = none := (hdep ⟨21, .guard⟩ (by simp) rfl).2 42 rfl
            exact .inr ⟨by show (y 21 == some true) = false; rw [yg]; rfl, rfl⟩
          rcases i with _ | i
          · obtain rfl := Option.some.inj ho
            have yg : y 21 = none := (hdep ⟨21, .guard⟩ (by simp) rfl).2 42 rfl
            exact .inr ⟨by show (y 21 == some true) = false; rw [yg]; rfl, rfl⟩
          rcases i with _ | i
          · obtain rfl := Option.some.inj ho
            have yg : y 21 = none := (hdep ⟨21, .guard⟩ (by simp) rfl).2 42 rfl
            exact .inr ⟨by show (y 21 == some true) = false; rw [yg]; rfl, rfl⟩
          rcases i with _ | i
          · obtain rfl := Option.some.inj ho
            have yg : y 21 = none := (hdep ⟨21, .guard⟩ (by simp) rfl).2 42 rfl
            exact .inr ⟨by show (y 21 == some true) = false; rw [yg]; rfl, rfl⟩
          rcases i with _ | i
          · obtain rfl := Option.some.inj ho
            have yg : y 21 = none := (hdep ⟨21, .guard⟩ (by simp) rfl).2 42 rfl
            exact .inr ⟨by show (y 21 == some true) = false; rw [yg]; rfl, rfl⟩
          rcases i with _ | i
          · obtain rfl := Option.some.inj ho
            have yg : y 21 = none := (hdep ⟨21, .guard⟩ (by simp) rfl).2 42 rfl
            exact .inr ⟨by show (y 21 == some true) = false; rw [yg]; rfl, rfl⟩
          rcases i with _ | i
          · obtain rfl := Option.some.inj ho
            have yg : y 21 = none := (hdep ⟨21, .guard⟩ (by simp) rfl).2 42 rfl
            exact .inr ⟨by show (y 21 == some true) = false; rw [yg]; rfl, rfl⟩
          rcases i with _ | i
          · obtain rfl := Option.some.inj ho
            have yg : y 21 = none := (hdep ⟨21, .guard⟩ (by simp) rfl).2 42 rfl
            exact .inr ⟨by show (y 21 == some true) = false; rw [yg]; rfl, rfl⟩
          rcases i with _ | i
          · obtain rfl := Option.some.inj ho
            have yg : y 21 = none := (hdep ⟨21, .guard⟩ (by simp) rfl).2 42 rfl
            exact .inr ⟨by show (y 21 == some true) = false; rw [yg]; rfl, rfl⟩
          rcases i with _ | i
          · obtain rfl := Option.some.inj ho
            have yg : y 21 = none := (hdep ⟨21, .guard⟩ (by simp) rfl).2 42 rfl
            exact .inr ⟨by show (y 21 == some true) = false; rw [yg]; rfl, rfl⟩
          rcases i with _ | i
          · obtain rfl := Option.some.inj ho
            have yg : y 21 = none := (hdep ⟨21, .guard⟩ (by simp) rfl).2 42 rfl
            exact .inr ⟨by show (y 21 == some true) = false; rw [yg]; rfl, rfl⟩
          rcases i with _ | i
          · obtain rfl := Option.some.inj ho
            have yg : y 21 = none := (hdep ⟨21, .guard⟩ (by simp) rfl).2 42 rfl
            exact .inr ⟨by show (y 21 == some true) = false; rw [yg]; rfl, rfl⟩
          rcases i with _ | i
          · obtain rfl := Option.some.inj ho
            have yg : y 18 = some true := (hdep ⟨18, .guard⟩ (by simp) rfl).2 39 rfl
            exact .inr ⟨by show (y 18 == some false) = false; rw [yg]; rfl, rfl⟩
          rcases i with _ | i
          · obtain rfl := Option.some.inj ho
            have e18 : ρ (.tmp 39) = .bool true := (hdep ⟨18, .data⟩ (by simp) rfl).1 39 rfl
            have e35 : ρ (.tmp 56) = undef := (hdep ⟨35, .data⟩ (by simp) rfl).1 56 rfl
            have ocn : ∀ v, ρ (.const v) = v := fun v => hout (.const v) rfl
            clear hdep hout
            refine .inl ⟨rfl, (Gives.val ?_ : Gives _ _ _ (.bool true) _)⟩
            go_simp
          cases ho
        case fin =>
          intro x hBx
          have hBf := (HB.out.trans (hBx.mono HB.out.size))
          go_wp2_with fail
          go_ret
          exact ⟨ret_bool (HFN.out (by rw [HI.out]; simp [h0])).symm, hBf⟩
    · obtain rfl : k = ns := by omega
      have hki : ¬ (k : Int) < (k : Int) := by omega
      have HAll : Hid (allB (siteG P k0 S) k = true) := allB_yes hd.out
      have HF3 : Hid (F = allB (callG (calledF (P.getD k0 [])) C) nc) := by show _ = _; rw [HF2.out, HAll.out]; rfl
      clear HF2 HAll hd HY KY
      go_wp2_with fail
      clear a3 l3
      refine (l2Calls_any wr B _ P (HP.out.later HB.out) HOK.out k0 (by rw [HPN.out]; exact HK.out)).mono ?_
      rintro e y2 ⟨vc, rfl, hown, hb⟩
      have HY2 : Hid (Below x0.heap.size x0 y2) := HB.out.trans (hb.mono HB.out.size)
      have KY2 := KB.out.laterH hb
      have HL : Hid (IntsW y2 vc (callsL (P.getD k0 []) P.length)) := hown.ints.any
      have HM : Hid (∀ m : Int, decide (m ∈ callsL (P.getD k0 []) P.length) = calledF (P.getD k0 []) m) := fun m => by
        have h := callsL_mem (P.getD k0 []) P.length (fun x hx => called_in (progOkF_code HOK.out (by rw [HPN.out]; exact HK.out)).2 x hx) m
        rw [Bool.eq_iff_iff, decide_eq_true_eq]
        exact h
      generalize callsL (P.getD k0 []) P.length = LC at HL HM
      generalize calledF (P.getD k0 []) = q at HM HF3
      clear hown hb HB KB
      obtain ⟨pl, cl, rfl⟩ := HL.out.shape
      have a4 := KY2.out.c 4 _ rfl
      have l4 := KY2.out.lt
      go_wp2_with fail
      clear a4 l4
      go_loopw [9] (fun i z => ∃ kq : Nat, kq ≤ nc ∧ i = .int .i64 kq ∧ Hid (Below x0.heap.size x0 z) ∧ Hid (BxN z x0.heap.size [.bool a, .int .i64 l, .int .i64 uu, .slice ps k cs, .slice pc nc cc]) ∧ Hid (IntsW z (.slice pl LC.length cl) LC) ∧ Hid (∀ j, j < kq → callG q C j = true)) (fun i _ => nc - (RowKit.intOf i).toNat)
      case atStart => exact ⟨0, by omega, rfl, HY2.out, KY2.out, HL.out, fun j hj => by omega⟩
      case round =>
        obtain ⟨kk, hkk, rfl, HB, KB, HLL, hd⟩ := hrel
        have a4 := KB.out.c 4 _ rfl
        have l4 := KB.out.lt
        by_cases hlt2 : kk < nc
        · have hki2 : (kk : Int) < (nc : Int) := by omega
          obtain ⟨p', cap', hv, _, hc⟩ := HCC.out
          injection hv with e1 _ e3
          subst e1 e3
          rcases hc with h0 | ⟨g, o, rfl, hBg, hgE, hEx, _, hins⟩
          · omega
          have hgx : g < x0.heap.size := by omega
          have HD : Hid (∀ j, j < nc * 2 → x0.cell? ⟨g, o + j, none⟩ = some (.int .i64 (C j))) := hins
          clear hins hBg hgE hEx
          go_wp2_with fail
          have hq := HD.out
          have q0 := hq (kk * 2) (by omega)
          have q1 := hq (kk * 2 + 1) (by omega)
          rw [← Nat.add_assoc] at q1
          clear hq
          have HFN : Hid (callG q C kk = false → F = false) := fun h => by rw [HF3.out, allB_no hlt2 h]
          have HI : Hid (callG q C kk = ((q (C (kk * 2)) && inI (C (kk * 2 + 1)) 0 2) && (decide (kk = 0) || callLtF (C ((kk - 1) * 2), C ((kk - 1) * 2 + 1)) (C (kk * 2), C (kk * 2 + 1))))) := by show _ = _; unfold callG callIs inI; rw [Bool.decide_and]
          have HPV : Hid (∀ km, kk = km + 1 → x0.cell? ⟨g, o + km * 2, none⟩ = some (.int .i64 (C (km * 2))) ∧ x0.cell? ⟨g, o + km * 2 + 1, none⟩ = some (.int .i64 (C (km * 2 + 1)))) := fun km e => by
            have h := HD.out
            refine ⟨h (km * 2) (by omega), ?_⟩
            rw [Nat.add_assoc]; exact h (km * 2 + 1) (by omega)
          have HHQ : Hid (∀ (m : Int) (z : World), Below wr.heap.size wr z → Calls Tryz.prog 53 #[.slice pl LC.length cl, .int .i64 m] z fun e y => e = .returned (.bool (q m)) ∧ Below z.heap.size z y) := fun m z hz => by have := l12Has_any z _ LC m (HLL.out.later hz); rw [HM.out] at this; exact this
          clear HD HS
          generalize C (kk * 2) = s0 at *
          generalize C (kk * 2 + 1) = s1 at *
          cases h0 : q s0
          · have HHS : Hid (∀ z : World, Below wr.heap.size wr z → Calls Tryz.prog 53 #[.slice pl LC.length cl, .int .i64 s0] z fun e y => e = .returned (.bool false) ∧ Below z.heap.size z y) := fun z hz => by have := HHQ.out s0 z hz; rw [h0] at this; exact this
            refine wp_region_vals (by kernel_rfl) (by kernel_rfl) (by kernel_rfl) (by kernel_rfl) (fun j => [.slice pl LC.length cl, .pointer (some ⟨x0.heap.size, 4, none⟩), .slice (some ⟨g, o, none⟩) nc cc, .int .i64 ↑kk, .pointer (some ⟨g, o + kk * 2, none⟩), .pointer (some ⟨g, o + kk * 2, none⟩), .int .i64 s0, .bool false, .bool true, .bool true, undef, undef, undef, undef, undef, undef, undef, undef, .bool true, .bool true, undef, undef, undef, undef, undef, undef, undef, undef, undef, undef, undef, undef, undef, undef, undef, undef, undef, .bool true].getD j undef) wr (Below.drew (Below.refl _ _)) ?step ⟨#[.slice pp pn cp, .int .i64 ↑k0, .agg #[.bool a, .int .i64 l, .int .i64 uu, .slice ps k cs, .slice (some ⟨g, o, none⟩) nc cc], undef, undef, .pointer (some ⟨x0.heap.size, 0, none⟩), u6, .int .i64 ↑k, .slice pl LC.length cl, .int .i64 ↑kk, .pointer (some ⟨x0.heap.size, 0, none⟩), .agg #[.bool a, .int .i64 l, .int .i64 uu], .bool true, .bool false, .int .i64 ↑k, .pointer (some ⟨x0.heap.size, 3, none⟩), .slice ps k cs, .int .i64 ↑k, .bool false, u19, u20, u21, u22, u23, u24, u25, u26, u27, u28, u29, u30, u31, u32, u33, u34, u35, u36, u37, u38, u39, u40, u41, u42, u43, u44, u45, u46, u47, u48, u49, u50, u51, u52, u53, u54, u55, u56, u57, .slice pp pn cp, .int .i64 ↑k0, .slice pl LC.length cl, .int .i64 ↑kk, .pointer (some ⟨x0.heap.size, 4, none⟩), .slice (some ⟨g, o, none⟩) nc cc, .int .i64 ↑nc, .bool true, u66, u67, .slice pl LC.length cl, .pointer (some ⟨x0.heap.size, 4, none⟩), .slice (some ⟨g, o, none⟩) nc cc, .int .i64 ↑kk, .pointer (some ⟨g, o + kk * 2, none⟩), .pointer (some ⟨g, o + kk * 2, none⟩), .int .i64 s0, .bool false, .bool true, .bool true, undef, undef, undef, undef, undef, undef, undef, undef, .bool true, .bool true, undef, undef, undef, undef, undef, undef, undef, undef, undef, undef, undef, undef, undef, undef, undef, undef, undef, .bool true], []⟩ (by kernel_rfl) ?fin
            case step =>
              intro i o ho ρ y x hBx hdep hout
              rcases i with _ | i
              · obtain rfl := Option.some.inj ho
                have o8 : ρ (.tmp 8) = .slice pl LC.length cl := hout (.tmp 8) rfl
                clear hdep hout
                refine .inl ⟨rfl, (Gives.val ?_ : Gives _ _ _ (.slice pl LC.length cl) _)⟩
                go_simp
              rcases i with _ | i
              · obtain rfl := Option.some.inj ho
                have o5 : ρ (.tmp 5) = .pointer (some ⟨x0.heap.size, 0, none⟩) := hout (.tmp 5) rfl
                clear hdep hout
                refine .inl ⟨rfl, (Gives.val ?_ : Gives _ _ _ (.pointer (some ⟨x0.heap.size, 4, none⟩)) _)⟩
                go_simp
              rcases i with _ | i
              · obtain rfl := Option.some.inj ho
                have e1 : ρ (.tmp 69) = .pointer (some ⟨x0.heap.size, 4, none⟩) := (hdep ⟨1, .data⟩ (by simp) rfl).1 69 rfl
                clear hdep hout
                have kb := KB.out.later hBx
                have c3 := kb.c 3 _ rfl
                have c4 := kb.c 4 _ rfl
                have cl0 := kb.lt
                refine .inl ⟨rfl, (Gives.val ?_ : Gives _ _ _ (.slice (some ⟨g, o, none⟩) nc cc) _)⟩
                go_simp
              rcases i with _ | i
              · obtain rfl := Option.some.inj ho
                have o9 : ρ (.tmp 9) = .int .i64 ↑kk := hout (.tmp 9) rfl
                clear hdep hout
                refine .inl ⟨rfl, (Gives.val ?_ : Gives _ _ _ (.int .i64 ↑kk) _)⟩
                go_simp
              rcases i with _ | i
              · obtain rfl := Option.some.inj ho
                have e2 : ρ (.tmp 70) = .slice (some ⟨g, o, none⟩) nc cc := (hdep ⟨2, .data⟩ (by simp) rfl).1 70 rfl
                have e3 : ρ (.tmp 71) = .int .i64 ↑kk := (hdep ⟨3, .data⟩ (by simp) rfl).1 71 rfl
                clear hdep hout
                refine .inl ⟨rfl, (Gives.val ?_ : Gives _ _ _ (.pointer (some ⟨g, o + kk * 2, none⟩)) _)⟩
                go_simp
              rcases i with _ | i
              · obtain rfl := Option.some.inj ho
                have e4 : ρ (.tmp 72) = .pointer (some ⟨g, o + kk * 2, none⟩) := (hdep ⟨4, .data⟩ (by simp) rfl).1 72 rfl
                clear hdep hout
                refine .inl ⟨rfl, (Gives.val ?_ : Gives _ _ _ (.pointer (some ⟨g, o + kk * 2, none⟩)) _)⟩
                go_simp
              rcases i with _ | i
              · obtain rfl := Option.some.inj ho
                have e5 : ρ (.tmp 73) = .pointer (some ⟨g, o + kk * 2, none⟩) := (hdep ⟨5, .data⟩ (by simp) rfl).1 73 rfl
                clear hdep hout
                have hbz := (HB.out.trans (hBx.mono HB.out.size))
                have jq0 := (hbz.cell (p := ⟨g, o + kk * 2, none⟩) hgx).trans q0
                have jq1 := (hbz.cell (p := ⟨g, o + kk * 2 + 1, none⟩) hgx).trans q1
                refine .inl ⟨rfl, (Gives.val ?_ : Gives _ _ _ (.int .i64 s0) _)⟩
                go_simp
              rcases i with _ | i
              · obtain rfl := Option.some.inj ho
                have e0 : ρ (.tmp 68) = .slice pl LC.length cl := (hdep ⟨0, .data⟩ (by simp) rfl).1 68 rfl
                have e6 : ρ (.tmp 74) = .int .i64 s0 := (hdep ⟨6, .data⟩ (by simp) rfl).1 74 rfl
                have ofn : ∀ f, ρ (.func f) = .func (.func f) #[] #[] := fun f => hout (.func f) rfl
                clear hdep hout
                refine .inl ⟨?_, ?_⟩
                · rfl
                show Gives _ _ _ (.bool false) _
                refine Gives.call (HHS.out x hBx) ?_
                go_simp
              rcases i with _ | i
              · obtain rfl := Option.some.inj ho
                have e7 : ρ (.tmp 75) = .bool false := (hdep ⟨7, .data⟩ (by simp) rfl).1 75 rfl
                clear hdep hout
                refine .inl ⟨rfl, (Gives.val ?_ : Gives _ _ _ (.bool true) _)⟩
                go_simp
              rcases i with _ | i
              · obtain rfl := Option.some.inj ho
                have e8 : ρ (.tmp 76) = .bool true := (hdep ⟨8, .data⟩ (by simp) rfl).1 76 rfl
                clear hdep hout
                refine .inl ⟨rfl, (Gives.val ?_ : Gives _ _ _ (.bool true) _)⟩
                go_simp
              rcases i with _ | i
              · obtain rfl := Option.some.inj ho
                have yg : y 9 = some true := (hdep ⟨9, .guard⟩ (by simp) rfl).2 77 rfl
                exact .inr ⟨by show (y 9 == some false) = false; rw [yg]; rfl, rfl⟩
              rcases i with _ | i
              · obtain rfl := Option.some.inj ho
                have yg : y 9 = some true := (hdep ⟨9, .guard⟩ (by simp) rfl).2 77 rfl
                exact .inr ⟨by show (y 9 == some false) = false; rw [yg]; rfl, rfl⟩
              rcases i with _ | i
              · obtain rfl := Option.some.inj ho
                have yg : y 9 = some true := (hdep ⟨9, .guard⟩ (by simp) rfl).2 77 rfl
                exact .inr ⟨by show (y 9 == some false) = false; rw [yg]; rfl, rfl⟩
              rcases i with _ | i
              · obtain rfl := Option.some.inj ho
                have yg : y 9 = some true := (hdep ⟨9, .guard⟩ (by simp) rfl).2 77 rfl
                exact .inr ⟨by show (y 9 == some false) = false; rw [yg]; rfl, rfl⟩
              rcases i with _ | i
              · obtain rfl := Option.some.inj ho
                have yg : y 9 = some true := (hdep ⟨9, .guard⟩ (by simp) rfl).2 77 rfl
                exact .inr ⟨by show (y 9 == some false) = false; rw [yg]; rfl, rfl⟩
              rcases i with _ | i
              · obtain rfl := Option.some.inj ho
                have yg : y 9 = some true := (hdep ⟨9, .guard⟩ (by simp) rfl).2 77 rfl
                exact .inr ⟨by show (y 9 == some false) = false; rw [yg]; rfl, rfl⟩
              rcases i with _ | i
              · obtain rfl := Option.some.inj ho
                have yg : y 9 = some true := (hdep ⟨9, .guard⟩ (by simp) rfl).2 77 rfl
                exact .inr ⟨by show (y 9 == some false) = false; rw [yg]; rfl, rfl⟩
              rcases i with _ | i
              · obtain rfl := Option.some.inj ho
                have yg : y 9 = some true := (hdep ⟨9, .guard⟩ (by simp) rfl).2 77 rfl
                exact .inr ⟨by show (y 9 == some false) = false; rw [yg]; rfl, rfl⟩
              rcases i with _ | i
              · obtain rfl := Option.some.inj ho
                have e9 : ρ (.tmp 77) = .bool true := (hdep ⟨9, .data⟩ (by simp) rfl).1 77 rfl
                have e17 : ρ (.tmp 85) = undef := (hdep ⟨17, .data⟩ (by simp) rfl).1 85 rfl
                have ocn : ∀ v, ρ (.const v) = v := fun v => hout (.const v) rfl
                clear hdep hout
                refine .inl ⟨rfl, (Gives.val ?_ : Gives _ _ _ (.bool true) _)⟩
                go_simp
              rcases i with _ | i
              · obtain rfl := Option.some.inj ho
                have e18 : ρ (.tmp 86) = .bool true := (hdep ⟨18, .data⟩ (by simp) rfl).1 86 rfl
                clear hdep hout
                refine .inl ⟨rfl, (Gives.val ?_ : Gives _ _ _ (.bool true) _)⟩
                go_simp
              rcases i with _ | i
              · obtain rfl := Option.some.inj ho
                have yg : y 19 = some true := (hdep ⟨19, .guard⟩ (by simp) rfl).2 87 rfl
                exact .inr ⟨by show (y 19 == some false) = false; rw [yg]; rfl, rfl⟩
              rcases i with _ | i
              · obtain rfl := Option.some.inj ho
                have yg : y 19 = some true := (hdep ⟨19, .guard⟩ (by simp) rfl).2 87 rfl
                exact .inr ⟨by show (y 19 == some false) = false; rw [yg]; rfl, rfl⟩
              rcases i with _ | i
              · obtain rfl := Option.some.inj ho
                have yg : y 19 = some true := (hdep ⟨19, .guard⟩ (by simp) rfl).2 87 rfl
                exact .inr ⟨by show (y 19 == some false) = false; rw [yg]; rfl, rfl⟩
              rcases i with _ | i
              · obtain rfl := Option.some.inj ho
                have yg : y 22 = none := (hdep ⟨22, .guard⟩ (by simp) rfl).2 90 rfl
                exact .inr ⟨by show (y 22 == some true) = false; rw [yg]; rfl, rfl⟩
              rcases i with _ | i
              · obtain rfl := Option.some.inj ho
                have yg : y 22 = none := (hdep ⟨22, .guard⟩ (by simp) rfl).2 90 rfl
                exact .inr ⟨by show (y 22 == some true) = false; rw [yg]; rfl, rfl⟩
              rcases i with _ | i
              · obtain rfl := Option.some.inj ho
                have yg : y 22 = none := (hdep ⟨22, .guard⟩ (by simp) rfl).2 90 rfl
                exact .inr ⟨by show (y 22 == some true) = false; rw [yg]; rfl, rfl⟩
              rcases i with _ | i
              · obtain rfl := Option.some.inj ho
                have yg : y 22 = none := (hdep ⟨22, .guard⟩ (by simp) rfl).2 90 rfl
                exact .inr ⟨by show (y 22 == some true) = false; rw [yg]; rfl, rfl⟩
              rcases i with _ | i
              · obtain rfl := Option.some.inj ho
                have yg : y 22 = none := (hdep ⟨22, .guard⟩ (by simp) rfl).2 90 rfl
                exact .inr ⟨by show (y 22 == some true) = false; rw [yg]; rfl, rfl⟩
              rcases i with _ | i
              · obtain rfl := Option.some.inj ho
                have yg : y 22 = none := (hdep ⟨22, .guard⟩ (by simp) rfl).2 90 rfl
                exact .inr ⟨by show (y 22 == some true) = false; rw [yg]; rfl, rfl⟩
              rcases i with _ | i
              · obtain rfl := Option.some.inj ho
                have yg : y 22 = none := (hdep ⟨22, .guard⟩ (by simp) rfl).2 90 rfl
                exact .inr ⟨by show (y 22 == some true) = false; rw [yg]; rfl, rfl⟩
              rcases i with _ | i
              · obtain rfl := Option.some.inj ho
                have yg : y 22 = none := (hdep ⟨22, .guard⟩ (by simp) rfl).2 90 rfl
                exact .inr ⟨by show (y 22 == some true) = false; rw [yg]; rfl, rfl⟩
              rcases i with _ | i
              · obtain rfl := Option.some.inj ho
                have yg : y 22 = none := (hdep ⟨22, .guard⟩ (by simp) rfl).2 90 rfl
                exact .inr ⟨by show (y 22 == some true) = false; rw [yg]; rfl, rfl⟩
              rcases i with _ | i
              · obtain rfl := Option.some.inj ho
                have yg : y 22 = none := (hdep ⟨22, .guard⟩ (by simp) rfl).2 90 rfl
                exact .inr ⟨by show (y 22 == some true) = false; rw [yg]; rfl, rfl⟩
              rcases i with _ | i
              · obtain rfl := Option.some.inj ho
                have yg : y 22 = none := (hdep ⟨22, .guard⟩ (by simp) rfl).2 90 rfl
                exact .inr ⟨by show (y 22 == some true) = false; rw [yg]; rfl, rfl⟩
              rcases i with _ | i
              · obtain rfl := Option.some.inj ho
                have yg : y 22 = none := (hdep ⟨22, .guard⟩ (by simp) rfl).2 90 rfl
                exact .inr ⟨by show (y 22 == some true) = false; rw [yg]; rfl, rfl⟩
              rcases i with _ | i
              · obtain rfl := Option.some.inj ho
                have yg : y 22 = none := (hdep ⟨22, .guard⟩ (by simp) rfl).2 90 rfl
                exact .inr ⟨by show (y 22 == some true) = false; rw [yg]; rfl, rfl⟩
              rcases i with _ | i
              · obtain rfl := Option.some.inj ho
                have yg : y 19 = some true := (hdep ⟨19, .guard⟩ (by simp) rfl).2 87 rfl
                exact .inr ⟨by show (y 19 == some false) = false; rw [yg]; rfl, rfl⟩
              rcases i with _ | i
              · obtain rfl := Option.some.inj ho
                have e19 : ρ (.tmp 87) = .bool true := (hdep ⟨19, .data⟩ (by simp) rfl).1 87 rfl
                have e36 : ρ (.tmp 104) = undef := (hdep ⟨36, .data⟩ (by simp) rfl).1 104 rfl
                have ocn : ∀ v, ρ (.const v) = v := fun v => hout (.const v) rfl
                clear hdep hout
                refine .inl ⟨rfl, (Gives.val ?_ : Gives _ _ _ (.bool true) _)⟩
                go_simp
              cases ho
            case fin =>
              intro x hBx
              have hBf := (HB.out.trans (hBx.mono HB.out.size))
              go_wp2_with fail
              go_ret
              exact ⟨ret_bool (HFN.out (by rw [HI.out, h0]; rfl)).symm, hBf⟩
          · have HHS : Hid (∀ z : World, Below wr.heap.size wr z → Calls Tryz.prog 53 #[.slice pl LC.length cl, .int .i64 s0] z fun e y => e = .returned (.bool true) ∧ Below z.heap.size z y) := fun z hz => by have := HHQ.out s0 z hz; rw [h0] at this; exact this
            cases h5 : inI s1 0 2
            · skip
              refine wp_region_vals (by kernel_rfl) (by kernel_rfl) (by kernel_rfl) (by kernel_rfl) (fun j => [.slice pl LC.length cl, .pointer (some ⟨x0.heap.size, 4, none⟩), .slice (some ⟨g, o, none⟩) nc cc, .int .i64 ↑kk, .pointer (some ⟨g, o + kk * 2, none⟩), .pointer (some ⟨g, o + kk * 2, none⟩), .int .i64 s0, .bool true, .bool false, .bool false, .pointer (some ⟨x0.heap.size, 4, none⟩), .slice (some ⟨g, o, none⟩) nc cc, .int .i64 ↑kk, .pointer (some ⟨g, o + kk * 2, none⟩), .pointer (some ⟨g, o + kk * 2 + 1, none⟩), .int .i64 s1, .bool false, .bool true, .bool true, .bool true, undef, undef, undef, undef, undef, undef, undef, undef, undef, undef, undef, undef, undef, undef, undef, undef, undef, .bool true].getD j undef) wr (Below.drew (Below.refl _ _)) ?step ⟨#[.slice pp pn cp, .int .i64 ↑k0, .agg #[.bool a, .int .i64 l, .int .i64 uu, .slice ps k cs, .slice (some ⟨g, o, none⟩) nc cc], undef, undef, .pointer (some ⟨x0.heap.size, 0, none⟩), u6, .int .i64 ↑k, .slice pl LC.length cl, .int .i64 ↑kk, .pointer (some ⟨x0.heap.size, 0, none⟩), .agg #[.bool a, .int .i64 l, .int .i64 uu], .bool true, .bool false, .int .i64 ↑k, .pointer (some ⟨x0.heap.size, 3, none⟩), .slice ps k cs, .int .i64 ↑k, .bool false, u19, u20, u21, u22, u23, u24, u25, u26, u27, u28, u29, u30, u31, u32, u33, u34, u35, u36, u37, u38, u39, u40, u41, u42, u43, u44, u45, u46, u47, u48, u49, u50, u51, u52, u53, u54, u55, u56, u57, .slice pp pn cp, .int .i64 ↑k0, .slice pl LC.length cl, .int .i64 ↑kk, .pointer (some ⟨x0.heap.size, 4, none⟩), .slice (some ⟨g, o, none⟩) nc cc, .int .i64 ↑nc, .bool true, u66, u67, .slice pl LC.length cl, .pointer (some ⟨x0.heap.size, 4, none⟩), .slice (some ⟨g, o, none⟩) nc cc, .int .i64 ↑kk, .pointer (some ⟨g, o + kk * 2, none⟩), .pointer (some ⟨g, o + kk * 2, none⟩), .int .i64 s0, .bool true, .bool false, .bool false, .pointer (some ⟨x0.heap.size, 4, none⟩), .slice (some ⟨g, o, none⟩) nc cc, .int .i64 ↑kk, .pointer (some ⟨g, o + kk * 2, none⟩), .pointer (some ⟨g, o + kk * 2 + 1, none⟩), .int .i64 s1, .bool false, .bool true, .bool true, .bool true, undef, undef, undef, undef, undef, undef, undef, undef, undef, undef, undef, undef, undef, undef, undef, undef, undef, .bool true], []⟩ (by kernel_rfl) ?fin
              case step =>
                intro i o ho ρ y x hBx hdep hout
                rcases i with _ | i
                · obtain rfl := Option.some.inj ho
                  have o8 : ρ (.tmp 8) = .slice pl LC.length cl := hout (.tmp 8) rfl
                  clear hdep hout
                  refine .inl ⟨rfl, (Gives.val ?_ : Gives _ _ _ (.slice pl LC.length cl) _)⟩
                  go_simp
                rcases i with _ | i
                · obtain rfl := Option.some.inj ho
                  have o5 : ρ (.tmp 5) = .pointer (some ⟨x0.heap.size, 0, none⟩) := hout (.tmp 5) rfl
                  clear hdep hout
                  refine .inl ⟨rfl, (Gives.val ?_ : Gives _ _ _ (.pointer (some ⟨x0.heap.size, 4, none⟩)) _)⟩
                  go_simp
                rcases i with _ | i
                · obtain rfl := Option.some.inj ho
                  have e1 : ρ (.tmp 69) = .pointer (some ⟨x0.heap.size, 4, none⟩) := (hdep ⟨1, .data⟩ (by simp) rfl).1 69 rfl
                  clear hdep hout
                  have kb := KB.out.later hBx
                  have c3 := kb.c 3 _ rfl
                  have c4 := kb.c 4 _ rfl
                  have cl0 := kb.lt
                  refine .inl ⟨rfl, (Gives.val ?_ : Gives _ _ _ (.slice (some ⟨g, o, none⟩) nc cc) _)⟩
                  go_simp
                rcases i with _ | i
                · obtain rfl := Option.some.inj ho
                  have o9 : ρ (.tmp 9) = .int .i64 ↑kk := hout (.tmp 9) rfl
                  clear hdep hout
                  refine .inl ⟨rfl, (Gives.val ?_ : Gives _ _ _ (.int .i64 ↑kk) _)⟩
                  go_simp
                rcases i with _ | i
                · obtain rfl := Option.some.inj ho
                  have e2 : ρ (.tmp 70) = .slice (some ⟨g, o, none⟩) nc cc := (hdep ⟨2, .data⟩ (by simp) rfl).1 70 rfl
                  have e3 : ρ (.tmp 71) = .int .i64 ↑kk := (hdep ⟨3, .data⟩ (by simp) rfl).1 71 rfl
                  clear hdep hout
                  refine .inl ⟨rfl, (Gives.val ?_ : Gives _ _ _ (.pointer (some ⟨g, o + kk * 2, none⟩)) _)⟩
                  go_simp
                rcases i with _ | i
                · obtain rfl := Option.some.inj ho
                  have e4 : ρ (.tmp 72) = .pointer (some ⟨g, o + kk * 2, none⟩) := (hdep ⟨4, .data⟩ (by simp) rfl).1 72 rfl
                  clear hdep hout
                  refine .inl ⟨rfl, (Gives.val ?_ : Gives _ _ _ (.pointer (some ⟨g, o + kk * 2, none⟩)) _)⟩
                  go_simp
                rcases i with _ | i
                · obtain rfl := Option.some.inj ho
                  have e5 : ρ (.tmp 73) = .pointer (some ⟨g, o + kk * 2, none⟩) := (hdep ⟨5, .data⟩ (by simp) rfl).1 73 rfl
                  clear hdep hout
                  have hbz := (HB.out.trans (hBx.mono HB.out.size))
                  have jq0 := (hbz.cell (p := ⟨g, o + kk * 2, none⟩) hgx).trans q0
                  have jq1 := (hbz.cell (p := ⟨g, o + kk * 2 + 1, none⟩) hgx).trans q1
                  refine .inl ⟨rfl, (Gives.val ?_ : Gives _ _ _ (.int .i64 s0) _)⟩
                  go_simp
                rcases i with _ | i
                · obtain rfl := Option.some.inj ho
                  have e0 : ρ (.tmp 68) = .slice pl LC.length cl := (hdep ⟨0, .data⟩ (by simp) rfl).1 68 rfl
                  have e6 : ρ (.tmp 74) = .int .i64 s0 := (hdep ⟨6, .data⟩ (by simp) rfl).1 74 rfl
                  have ofn : ∀ f, ρ (.func f) = .func (.func f) #[] #[] := fun f => hout (.func f) rfl
                  clear hdep hout
                  refine .inl ⟨?_, ?_⟩
                  · rfl
                  show Gives _ _ _ (.bool true) _
                  refine Gives.call (HHS.out x hBx) ?_
                  go_simp
                rcases i with _ | i
                · obtain rfl := Option.some.inj ho
                  have e7 : ρ (.tmp 75) = .bool true := (hdep ⟨7, .data⟩ (by simp) rfl).1 75 rfl
                  clear hdep hout
                  refine .inl ⟨rfl, (Gives.val ?_ : Gives _ _ _ (.bool false) _)⟩
                  go_simp
                rcases i with _ | i
                · obtain rfl := Option.some.inj ho
                  have e8 : ρ (.tmp 76) = .bool false := (hdep ⟨8, .data⟩ (by simp) rfl).1 76 rfl
                  clear hdep hout
                  refine .inl ⟨rfl, (Gives.val ?_ : Gives _ _ _ (.bool false) _)⟩
                  go_simp
                rcases i with _ | i
                · obtain rfl := Option.some.inj ho
                  have o5 : ρ (.tmp 5) = .pointer (some ⟨x0.heap.size, 0, none⟩) := hout (.tmp 5) rfl
                  have yg : y 9 = some false := (hdep ⟨9, .guard⟩ (by simp) rfl).2 77 rfl
                  clear hdep hout
                  refine .inl ⟨(by show (y 9 == some false) = true; rw [yg]; rfl), (Gives.val ?_ : Gives _ _ _ (.pointer (some ⟨x0.heap.size, 4, none⟩)) _)⟩
                  go_simp
                rcases i with _ | i
                · obtain rfl := Option.some.inj ho
                  have e10 : ρ (.tmp 78) = .pointer (some ⟨x0.heap.size, 4, none⟩) := (hdep ⟨10, .data⟩ (by simp) rfl).1 78 rfl
                  have yg : y 9 = some false := (hdep ⟨9, .guard⟩ (by simp) rfl).2 77 rfl
                  clear hdep hout
                  have kb := KB.out.later hBx
                  have c3 := kb.c 3 _ rfl
                  have c4 := kb.c 4 _ rfl
                  have cl0 := kb.lt
                  refine .inl ⟨(by show (y 9 == some false) = true; rw [yg]; rfl), (Gives.val ?_ : Gives _ _ _ (.slice (some ⟨g, o, none⟩) nc cc) _)⟩
                  go_simp
                rcases i with _ | i
                · obtain rfl := Option.some.inj ho
                  have o9 : ρ (.tmp 9) = .int .i64 ↑kk := hout (.tmp 9) rfl
                  have yg : y 9 = some false := (hdep ⟨9, .guard⟩ (by simp) rfl).2 77 rfl
                  clear hdep hout
                  refine .inl ⟨(by show (y 9 == some false) = true; rw [yg]; rfl), (Gives.val ?_ : Gives _ _ _ (.int .i64 ↑kk) _)⟩
                  go_simp
                rcases i with _ | i
                · obtain rfl := Option.some.inj ho
                  have e11 : ρ (.tmp 79) = .slice (some ⟨g, o, none⟩) nc cc := (hdep ⟨11, .data⟩ (by simp) rfl).1 79 rfl
                  have e12 : ρ (.tmp 80) = .int .i64 ↑kk := (hdep ⟨12, .data⟩ (by simp) rfl).1 80 rfl
                  have yg : y 9 = some false := (hdep ⟨9, .guard⟩ (by simp) rfl).2 77 rfl
                  clear hdep hout
                  refine .inl ⟨(by show (y 9 == some false) = true; rw [yg]; rfl), (Gives.val ?_ : Gives _ _ _ (.pointer (some ⟨g, o + kk * 2, none⟩)) _)⟩
                  go_simp
                rcases i with _ | i
                · obtain rfl := Option.some.inj ho
                  have e13 : ρ (.tmp 81) = .pointer (some ⟨g, o + kk * 2, none⟩) := (hdep ⟨13, .data⟩ (by simp) rfl).1 81 rfl
                  have yg : y 9 = some false := (hdep ⟨9, .guard⟩ (by simp) rfl).2 77 rfl
                  clear hdep hout
                  refine .inl ⟨(by show (y 9 == some false) = true; rw [yg]; rfl), (Gives.val ?_ : Gives _ _ _ (.pointer (some ⟨g, o + kk * 2 + 1, none⟩)) _)⟩
                  go_simp
                rcases i with _ | i
                · obtain rfl := Option.some.inj ho
                  have e14 : ρ (.tmp 82) = .pointer (some ⟨g, o + kk * 2 + 1, none⟩) := (hdep ⟨14, .data⟩ (by simp) rfl).1 82 rfl
                  have yg : y 9 = some false := (hdep ⟨9, .guard⟩ (by simp) rfl).2 77 rfl
                  clear hdep hout
                  have hbz := (HB.out.trans (hBx.mono HB.out.size))
                  have jq0 := (hbz.cell (p := ⟨g, o + kk * 2, none⟩) hgx).trans q0
                  have jq1 := (hbz.cell (p := ⟨g, o + kk * 2 + 1, none⟩) hgx).trans q1
                  refine .inl ⟨(by show (y 9 == some false) = true; rw [yg]; rfl), (Gives.val ?_ : Gives _ _ _ (.int .i64 s1) _)⟩
                  go_simp
                rcases i with _ | i
                · obtain rfl := Option.some.inj ho
                  have e15 : ρ (.tmp 83) = .int .i64 s1 := (hdep ⟨15, .data⟩ (by simp) rfl).1 83 rfl
                  have yg : y 9 = some false := (hdep ⟨9, .guard⟩ (by simp) rfl).2 77 rfl
                  have ocn : ∀ v, ρ (.const v) = v := fun v => hout (.const v) rfl
                  have ofn : ∀ f, ρ (.func f) = .func (.func f) #[] #[] := fun f => hout (.func f) rfl
                  clear hdep hout
                  refine .inl ⟨?_, ?_⟩
                  · show (y 9 == some false) = true
                    rw [yg]; rfl
                  show Gives _ _ _ (.bool false) _
                  refine Gives.call (l6In_b s1 0 2 false h5 x) ?_
                  go_simp
                rcases i with _ | i
                · obtain rfl := Option.some.inj ho
                  have e16 : ρ (.tmp 84) = .bool false := (hdep ⟨16, .data⟩ (by simp) rfl).1 84 rfl
                  have yg : y 9 = some false := (hdep ⟨9, .guard⟩ (by simp) rfl).2 77 rfl
                  clear hdep hout
                  refine .inl ⟨(by show (y 9 == some false) = true; rw [yg]; rfl), (Gives.val ?_ : Gives _ _ _ (.bool true) _)⟩
                  go_simp
                rcases i with _ | i
                · obtain rfl := Option.some.inj ho
                  have e9 : ρ (.tmp 77) = .bool false := (hdep ⟨9, .data⟩ (by simp) rfl).1 77 rfl
                  have e17 : ρ (.tmp 85) = .bool true := (hdep ⟨17, .data⟩ (by simp) rfl).1 85 rfl
                  have ocn : ∀ v, ρ (.const v) = v := fun v => hout (.const v) rfl
                  clear hdep hout
                  refine .inl ⟨rfl, (Gives.val ?_ : Gives _ _ _ (.bool true) _)⟩
                  go_simp
                rcases i with _ | i
                · obtain rfl := Option.some.inj ho
                  have e18 : ρ (.tmp 86) = .bool true := (hdep ⟨18, .data⟩ (by simp) rfl).1 86 rfl
                  clear hdep hout
                  refine .inl ⟨rfl, (Gives.val ?_ : Gives _ _ _ (.bool true) _)⟩
                  go_simp
                rcases i with _ | i
                · obtain rfl := Option.some.inj ho
                  have yg : y 19 = some true := (hdep ⟨19, .guard⟩ (by simp) rfl).2 87 rfl
                  exact .inr ⟨by show (y 19 == some false) = false; rw [yg]; rfl, rfl⟩
                rcases i with _ | i
                · obtain rfl := Option.some.inj ho
                  have yg : y 19 = some true := (hdep ⟨19, .guard⟩ (by simp) rfl).2 87 rfl
                  exact .inr ⟨by show (y 19 == some false) = false; rw [yg]; rfl, rfl⟩
                rcases i with _ | i
                · obtain rfl := Option.some.inj ho
                  have yg : y 19 = some true := (hdep ⟨19, .guard⟩ (by simp) rfl).2 87 rfl
                  exact .inr ⟨by show (y 19 == some false) = false; rw [yg]; rfl, rfl⟩
                rcases i with _ | i
                · obtain rfl := Option.some.inj ho
                  have yg : y 22 = none := (hdep ⟨22, .guard⟩ (by simp) rfl).2 90 rfl
                  exact .inr ⟨by show (y 22 == some true) = false; rw [yg]; rfl, rfl⟩
                rcases i with _ | i
                · obtain rfl := Option.some.inj ho
                  have yg : y 22 = none := (hdep ⟨22, .guard⟩ (by simp) rfl).2 90 rfl
                  exact .inr ⟨by show (y 22 == some true) = false; rw [yg]; rfl, rfl⟩
                rcases i with _ | i
                · obtain rfl := Option.some.inj ho
                  have yg : y 22 = none := (hdep ⟨22, .guard⟩ (by simp) rfl).2 90 rfl
                  exact .inr ⟨by show (y 22 == some true) = false; rw [yg]; rfl, rfl⟩
                rcases i with _ | i
                · obtain rfl := Option.some.inj ho
                  have yg : y 22 = none := (hdep ⟨22, .guard⟩ (by simp) rfl).2 90 rfl
                  exact .inr ⟨by show (y 22 == some true) = false; rw [yg]; rfl, rfl⟩
                rcases i with _ | i
                · obtain rfl := Option.some.inj ho
                  have yg : y 22 = none := (hdep ⟨22, .guard⟩ (by simp) rfl).2 90 rfl
                  exact .inr ⟨by show (y 22 == some true) = false; rw [yg]; rfl, rfl⟩
                rcases i with _ | i
                · obtain rfl := Option.some.inj ho
                  have yg : y 22 = none := (hdep ⟨22, .guard⟩ (by simp) rfl).2 90 rfl
                  exact .inr ⟨by show (y 22 == some true) = false; rw [yg]; rfl, rfl⟩
                rcases i with _ | i
                · obtain rfl := Option.some.inj ho
                  have yg : y 22 = none := (hdep ⟨22, .guard⟩ (by simp) rfl).2 90 rfl
                  exact .inr ⟨by show (y 22 == some true) = false; rw [yg]; rfl, rfl⟩
                rcases i with _ | i
                · obtain rfl := Option.some.inj ho
                  have yg : y 22 = none := (hdep ⟨22, .guard⟩ (by simp) rfl).2 90 rfl
                  exact .inr ⟨by show (y 22 == some true) = false; rw [yg]; rfl, rfl⟩
                rcases i with _ | i
                · obtain rfl := Option.some.inj ho
                  have yg : y 22 = none := (hdep ⟨22, .guard⟩ (by simp) rfl).2 90 rfl
                  exact .inr ⟨by show (y 22 == some true) = false; rw [yg]; rfl, rfl⟩
                rcases i with _ | i
                · obtain rfl := Option.some.inj ho
                  have yg : y 22 = none := (hdep ⟨22, .guard⟩ (by simp) rfl).2 90 rfl
                  exact .inr ⟨by show (y 22 == some true) = false; rw [yg]; rfl, rfl⟩
                rcases i with _ | i
                · obtain rfl := Option.some.inj ho
                  have yg : y 22 = none := (hdep ⟨22, .guard⟩ (by simp) rfl).2 90 rfl
                  exact .inr ⟨by show (y 22 == some true) = false; rw [yg]; rfl, rfl⟩
                rcases i with _ | i
                · obtain rfl := Option.some.inj ho
                  have yg : y 22 = none := (hdep ⟨22, .guard⟩ (by simp) rfl).2 90 rfl
                  exact .inr ⟨by show (y 22 == some true) = false; rw [yg]; rfl, rfl⟩
                rcases i with _ | i
                · obtain rfl := Option.some.inj ho
                  have yg : y 22 = none := (hdep ⟨22, .guard⟩ (by simp) rfl).2 90 rfl
                  exact .inr ⟨by show (y 22 == some true) = false; rw [yg]; rfl, rfl⟩
                rcases i with _ | i
                · obtain rfl := Option.some.inj ho
                  have yg : y 19 = some true := (hdep ⟨19, .guard⟩ (by simp) rfl).2 87 rfl
                  exact .inr ⟨by show (y 19 == some false) = false; rw [yg]; rfl, rfl⟩
                rcases i with _ | i
                · obtain rfl := Option.some.inj ho
                  have e19 : ρ (.tmp 87) = .bool true := (hdep ⟨19, .data⟩ (by simp) rfl).1 87 rfl
                  have e36 : ρ (.tmp 104) = undef := (hdep ⟨36, .data⟩ (by simp) rfl).1 104 rfl
                  have ocn : ∀ v, ρ (.const v) = v := fun v => hout (.const v) rfl
                  clear hdep hout
                  refine .inl ⟨rfl, (Gives.val ?_ : Gives _ _ _ (.bool true) _)⟩
                  go_simp
                cases ho
              case fin =>
                intro x hBx
                have hBf := (HB.out.trans (hBx.mono HB.out.size))
                go_wp2_with fail
                go_ret
                exact ⟨ret_bool (HFN.out (by rw [HI.out, h0, h5]; rfl)).symm, hBf⟩
            · by_cases hk0 : kk = 0
              · have hgt : ¬ (0 : Int) < (kk : Int) := by omega
                have HK0 : Hid (kk = 0) := hk0
                clear hk0
                refine wp_region_vals (by kernel_rfl) (by kernel_rfl) (by kernel_rfl) (by kernel_rfl) (fun j => [.slice pl LC.length cl, .pointer (some ⟨x0.heap.size, 4, none⟩), .slice (some ⟨g, o, none⟩) nc cc, .int .i64 ↑kk, .pointer (some ⟨g, o + kk * 2, none⟩), .pointer (some ⟨g, o + kk * 2, none⟩), .int .i64 s0, .bool true, .bool false, .bool false, .pointer (some ⟨x0.heap.size, 4, none⟩), .slice (some ⟨g, o, none⟩) nc cc, .int .i64 ↑kk, .pointer (some ⟨g, o + kk * 2, none⟩), .pointer (some ⟨g, o + kk * 2 + 1, none⟩), .int .i64 s1, .bool true, .bool false, .bool false, .bool false, .int .i64 ↑kk, .bool false, .bool false, undef, undef, undef, undef, undef, undef, undef, undef, undef, undef, undef, undef, undef, .bool false, .bool false].getD j undef) wr (Below.drew (Below.refl _ _)) ?step ⟨#[.slice pp pn cp, .int .i64 ↑k0, .agg #[.bool a, .int .i64 l, .int .i64 uu, .slice ps k cs, .slice (some ⟨g, o, none⟩) nc cc], undef, undef, .pointer (some ⟨x0.heap.size, 0, none⟩), u6, .int .i64 ↑k, .slice pl LC.length cl, .int .i64 ↑kk, .pointer (some ⟨x0.heap.size, 0, none⟩), .agg #[.bool a, .int .i64 l, .int .i64 uu], .bool true, .bool false, .int .i64 ↑k, .pointer (some ⟨x0.heap.size, 3, none⟩), .slice ps k cs, .int .i64 ↑k, .bool false, u19, u20, u21, u22, u23, u24, u25, u26, u27, u28, u29, u30, u31, u32, u33, u34, u35, u36, u37, u38, u39, u40, u41, u42, u43, u44, u45, u46, u47, u48, u49, u50, u51, u52, u53, u54, u55, u56, u57, .slice pp pn cp, .int .i64 ↑k0, .slice pl LC.length cl, .int .i64 ↑kk, .pointer (some ⟨x0.heap.size, 4, none⟩), .slice (some ⟨g, o, none⟩) nc cc, .int .i64 ↑nc, .bool true, u66, u67, .slice pl LC.length cl, .pointer (some ⟨x0.heap.size, 4, none⟩), .slice (some ⟨g, o, none⟩) nc cc, .int .i64 ↑kk, .pointer (some ⟨g, o + kk * 2, none⟩), .pointer (some ⟨g, o + kk * 2, none⟩), .int .i64 s0, .bool true, .bool false, .bool false, .pointer (some ⟨x0.heap.size, 4, none⟩), .slice (some ⟨g, o, none⟩) nc cc, .int .i64 ↑kk, .pointer (some ⟨g, o + kk * 2, none⟩), .pointer (some ⟨g, o + kk * 2 + 1, none⟩), .int .i64 s1, .bool true, .bool false, .bool false, .bool false, .int .i64 ↑kk, .bool false, .bool false, undef, undef, undef, undef, undef, undef, undef, undef, undef, undef, undef, undef, undef, .bool false, .bool false], []⟩ (by kernel_rfl) ?fin
                case step =>
                  intro i o ho ρ y x hBx hdep hout
                  rcases i with _ | i
                  · obtain rfl := Option.some.inj ho
                    have o8 : ρ (.tmp 8) = .slice pl LC.length cl := hout (.tmp 8) rfl
                    clear hdep hout
                    refine .inl ⟨rfl, (Gives.val ?_ : Gives _ _ _ (.slice pl LC.length cl) _)⟩
                    go_simp
                  rcases i with _ | i
                  · obtain rfl := Option.some.inj ho
                    have o5 : ρ (.tmp 5) = .pointer (some ⟨x0.heap.size, 0, none⟩) := hout (.tmp 5) rfl
                    clear hdep hout
                    refine .inl ⟨rfl, (Gives.val ?_ : Gives _ _ _ (.pointer (some ⟨x0.heap.size, 4, none⟩)) _)⟩
                    go_simp
                  rcases i with _ | i
                  · obtain rfl := Option.some.inj ho
                    have e1 : ρ (.tmp 69) = .pointer (some ⟨x0.heap.size, 4, none⟩) := (hdep ⟨1, .data⟩ (by simp) rfl).1 69 rfl
                    clear hdep hout
                    have kb := KB.out.later hBx
                    have c3 := kb.c 3 _ rfl
                    have c4 := kb.c 4 _ rfl
                    have cl0 := kb.lt
                    refine .inl ⟨rfl, (Gives.val ?_ : Gives _ _ _ (.slice (some ⟨g, o, none⟩) nc cc) _)⟩
                    go_simp
                  rcases i with _ | i
                  · obtain rfl := Option.some.inj ho
                    have o9 : ρ (.tmp 9) = .int .i64 ↑kk := hout (.tmp 9) rfl
                    clear hdep hout
                    refine .inl ⟨rfl, (Gives.val ?_ : Gives _ _ _ (.int .i64 ↑kk) _)⟩
                    go_simp
                  rcases i with _ | i
                  · obtain rfl := Option.some.inj ho
                    have e2 : ρ (.tmp 70) = .slice (some ⟨g, o, none⟩) nc cc := (hdep ⟨2, .data⟩ (by simp) rfl).1 70 rfl
                    have e3 : ρ (.tmp 71) = .int .i64 ↑kk := (hdep ⟨3, .data⟩ (by simp) rfl).1 71 rfl
                    clear hdep hout
                    refine .inl ⟨rfl, (Gives.val ?_ : Gives _ _ _ (.pointer (some ⟨g, o + kk * 2, none⟩)) _)⟩
                    go_simp
                  rcases i with _ | i
                  · obtain rfl := Option.some.inj ho
                    have e4 : ρ (.tmp 72) = .pointer (some ⟨g, o + kk * 2, none⟩) := (hdep ⟨4, .data⟩ (by simp) rfl).1 72 rfl
                    clear hdep hout
                    refine .inl ⟨rfl, (Gives.val ?_ : Gives _ _ _ (.pointer (some ⟨g, o + kk * 2, none⟩)) _)⟩
                    go_simp
                  rcases i with _ | i
                  · obtain rfl := Option.some.inj ho
                    have e5 : ρ (.tmp 73) = .pointer (some ⟨g, o + kk * 2, none⟩) := (hdep ⟨5, .data⟩ (by simp) rfl).1 73 rfl
                    clear hdep hout
                    have hbz := (HB.out.trans (hBx.mono HB.out.size))
                    have jq0 := (hbz.cell (p := ⟨g, o + kk * 2, none⟩) hgx).trans q0
                    have jq1 := (hbz.cell (p := ⟨g, o + kk * 2 + 1, none⟩) hgx).trans q1
                    refine .inl ⟨rfl, (Gives.val ?_ : Gives _ _ _ (.int .i64 s0) _)⟩
                    go_simp
                  rcases i with _ | i
                  · obtain rfl := Option.some.inj ho
                    have e0 : ρ (.tmp 68) = .slice pl LC.length cl := (hdep ⟨0, .data⟩ (by simp) rfl).1 68 rfl
                    have e6 : ρ (.tmp 74) = .int .i64 s0 := (hdep ⟨6, .data⟩ (by simp) rfl).1 74 rfl
                    have ofn : ∀ f, ρ (.func f) = .func (.func f) #[] #[] := fun f => hout (.func f) rfl
                    clear hdep hout
                    refine .inl ⟨?_, ?_⟩
                    · rfl
                    show Gives _ _ _ (.bool true) _
                    refine Gives.call (HHS.out x hBx) ?_
                    go_simp
                  rcases i with _ | i
                  · obtain rfl := Option.some.inj ho
                    have e7 : ρ (.tmp 75) = .bool true := (hdep ⟨7, .data⟩ (by simp) rfl).1 75 rfl
                    clear hdep hout
                    refine .inl ⟨rfl, (Gives.val ?_ : Gives _ _ _ (.bool false) _)⟩
                    go_simp
                  rcases i with _ | i
                  · obtain rfl := Option.some.inj ho
                    have e8 : ρ (.tmp 76) = .bool false := (hdep ⟨8, .data⟩ (by simp) rfl).1 76 rfl
                    clear hdep hout
                    refine .inl ⟨rfl, (Gives.val ?_ : Gives _ _ _ (.bool false) _)⟩
                    go_simp
                  rcases i with _ | i
                  · obtain rfl := Option.some.inj ho
                    have o5 : ρ (.tmp 5) = .pointer (some ⟨x0.heap.size, 0, none⟩) := hout (.tmp 5) rfl
                    have yg : y 9 = some false := (hdep ⟨9, .guard⟩ (by simp) rfl).2 77 rfl
                    clear hdep hout
                    refine .inl ⟨(by show (y 9 == some false) = true; rw [yg]; rfl), (Gives.val ?_ : Gives _ _ _ (.pointer (some ⟨x0.heap.size, 4, none⟩)) _)⟩
                    go_simp
                  rcases i with _ | i
                  · obtain rfl := Option.some.inj ho
                    have e10 : ρ (.tmp 78) = .pointer (some ⟨x0.heap.size, 4, none⟩) := (hdep ⟨10, .data⟩ (by simp) rfl).1 78 rfl
                    have yg : y 9 = some false := (hdep ⟨9, .guard⟩ (by simp) rfl).2 77 rfl
                    clear hdep hout
                    have kb := KB.out.later hBx
                    have c3 := kb.c 3 _ rfl
                    have c4 := kb.c 4 _ rfl
                    have cl0 := kb.lt
                    refine .inl ⟨(by show (y 9 == some false) = true; rw [yg]; rfl), (Gives.val ?_ : Gives _ _ _ (.slice (some ⟨g, o, none⟩) nc cc) _)⟩
                    go_simp
                  rcases i with _ | i
                  · obtain rfl := Option.some.inj ho
                    have o9 : ρ (.tmp 9) = .int .i64 ↑kk := hout (.tmp 9) rfl
                    have yg : y 9 = some false := (hdep ⟨9, .guard⟩ (by simp) rfl).2 77 rfl
                    clear hdep hout
                    refine .inl ⟨(by show (y 9 == some false) = true; rw [yg]; rfl), (Gives.val ?_ : Gives _ _ _ (.int .i64 ↑kk) _)⟩
                    go_simp
                  rcases i with _ | i
                  · obtain rfl := Option.some.inj ho
                    have e11 : ρ (.tmp 79) = .slice (some ⟨g, o, none⟩) nc cc := (hdep ⟨11, .data⟩ (by simp) rfl).1 79 rfl
                    have e12 : ρ (.tmp 80) = .int .i64 ↑kk := (hdep ⟨12, .data⟩ (by simp) rfl).1 80 rfl
                    have yg : y 9 = some false := (hdep ⟨9, .guard⟩ (by simp) rfl).2 77 rfl
                    clear hdep hout
                    refine .inl ⟨(by show (y 9 == some false) = true; rw [yg]; rfl), (Gives.val ?_ : Gives _ _ _ (.pointer (some ⟨g, o + kk * 2, none⟩)) _)⟩
                    go_simp
                  rcases i with _ | i
                  · obtain rfl := Option.some.inj ho
                    have e13 : ρ (.tmp 81) = .pointer (some ⟨g, o + kk * 2, none⟩) := (hdep ⟨13, .data⟩ (by simp) rfl).1 81 rfl
                    have yg : y 9 = some false := (hdep ⟨9, .guard⟩ (by simp) rfl).2 77 rfl
                    clear hdep hout
                    refine .inl ⟨(by show (y 9 == some false) = true; rw [yg]; rfl), (Gives.val ?_ : Gives _ _ _ (.pointer (some ⟨g, o + kk * 2 + 1, none⟩)) _)⟩
                    go_simp
                  rcases i with _ | i
                  · obtain rfl := Option.some.inj ho
                    have e14 : ρ (.tmp 82) = .pointer (some ⟨g, o + kk * 2 + 1, none⟩) := (hdep ⟨14, .data⟩ (by simp) rfl).1 82 rfl
                    have yg : y 9 = some false := (hdep ⟨9, .guard⟩ (by simp) rfl).2 77 rfl
                    clear hdep hout
                    have hbz := (HB.out.trans (hBx.mono HB.out.size))
                    have jq0 := (hbz.cell (p := ⟨g, o + kk * 2, none⟩) hgx).trans q0
                    have jq1 := (hbz.cell (p := ⟨g, o + kk * 2 + 1, none⟩) hgx).trans q1
                    refine .inl ⟨(by show (y 9 == some false) = true; rw [yg]; rfl), (Gives.val ?_ : Gives _ _ _ (.int .i64 s1) _)⟩
                    go_simp
                  rcases i with _ | i
                  · obtain rfl := Option.some.inj ho
                    have e15 : ρ (.tmp 83) = .int .i64 s1 := (hdep ⟨15, .data⟩ (by simp) rfl).1 83 rfl
                    have yg : y 9 = some false := (hdep ⟨9, .guard⟩ (by simp) rfl).2 77 rfl
                    have ocn : ∀ v, ρ (.const v) = v := fun v => hout (.const v) rfl
                    have ofn : ∀ f, ρ (.func f) = .func (.func f) #[] #[] := fun f => hout (.func f) rfl
                    clear hdep hout
                    refine .inl ⟨?_, ?_⟩
                    · show (y 9 == some false) = true
                      rw [yg]; rfl
                    show Gives _ _ _ (.bool true) _
                    refine Gives.call (l6In_b s1 0 2 true h5 x) ?_
                    go_simp
                  rcases i with _ | i
                  · obtain rfl := Option.some.inj ho
                    have e16 : ρ (.tmp 84) = .bool true := (hdep ⟨16, .data⟩ (by simp) rfl).1 84 rfl
                    have yg : y 9 = some false := (hdep ⟨9, .guard⟩ (by simp) rfl).2 77 rfl
                    clear hdep hout
                    refine .inl ⟨(by show (y 9 == some false) = true; rw [yg]; rfl), (Gives.val ?_ : Gives _ _ _ (.bool false) _)⟩
                    go_simp
                  rcases i with _ | i
                  · obtain rfl := Option.some.inj ho
                    have e9 : ρ (.tmp 77) = .bool false := (hdep ⟨9, .data⟩ (by simp) rfl).1 77 rfl
                    have e17 : ρ (.tmp 85) = .bool false := (hdep ⟨17, .data⟩ (by simp) rfl).1 85 rfl
                    have ocn : ∀ v, ρ (.const v) = v := fun v => hout (.const v) rfl
                    clear hdep hout
                    refine .inl ⟨rfl, (Gives.val ?_ : Gives _ _ _ (.bool false) _)⟩
                    go_simp
                  rcases i with _ | i
                  · obtain rfl := Option.some.inj ho
                    have e18 : ρ (.tmp 86) = .bool false := (hdep ⟨18, .data⟩ (by simp) rfl).1 86 rfl
                    clear hdep hout
                    refine .inl ⟨rfl, (Gives.val ?_ : Gives _ _ _ (.bool false) _)⟩
                    go_simp
                  rcases i with _ | i
                  · obtain rfl := Option.some.inj ho
                    have o9 : ρ (.tmp 9) = .int .i64 ↑kk := hout (.tmp 9) rfl
                    have yg : y 19 = some false := (hdep ⟨19, .guard⟩ (by simp) rfl).2 87 rfl
                    clear hdep hout
                    refine .inl ⟨(by show (y 19 == some false) = true; rw [yg]; rfl), (Gives.val ?_ : Gives _ _ _ (.int .i64 ↑kk) _)⟩
                    go_simp
                  rcases i with _ | i
                  · obtain rfl := Option.some.inj ho
                    have e20 : ρ (.tmp 88) = .int .i64 ↑kk := (hdep ⟨20, .data⟩ (by simp) rfl).1 88 rfl
                    have yg : y 19 = some false := (hdep ⟨19, .guard⟩ (by simp) rfl).2 87 rfl
                    have ocn : ∀ v, ρ (.const v) = v := fun v => hout (.const v) rfl
                    clear hdep hout
                    refine .inl ⟨(by show (y 19 == some false) = true; rw [yg]; rfl), (Gives.val ?_ : Gives _ _ _ (.bool false) _)⟩
                    (go_simp; exact HK0.out)
                  rcases i with _ | i
                  · obtain rfl := Option.some.inj ho
                    have e21 : ρ (.tmp 89) = .bool false := (hdep ⟨21, .data⟩ (by simp) rfl).1 89 rfl
                    have yg : y 19 = some false := (hdep ⟨19, .guard⟩ (by simp) rfl).2 87 rfl
                    clear hdep hout
                    refine .inl ⟨(by show (y 19 == some false) = true; rw [yg]; rfl), (Gives.val ?_ : Gives _ _ _ (.bool false) _)⟩
                    go_simp
                  rcases i with _ | i
                  · obtain rfl := Option.some.inj ho
                    have yg : y 22 = some false := (hdep ⟨22, .guard⟩ (by simp) rfl).2 90 rfl
                    exact .inr ⟨by show (y 22 == some true) = false; rw [yg]; rfl, rfl⟩
                  rcases i with _ | i
                  · obtain rfl := Option.some.inj ho
                    have yg : y 22 = some false := (hdep ⟨22, .guard⟩ (by simp) rfl).2 90 rfl
                    exact .inr ⟨by show (y 22 == some true) = false; rw [yg]; rfl, rfl⟩
                  rcases i with _ | i
                  · obtain rfl := Option.some.inj ho
                    have yg : y 22 = some false := (hdep ⟨22, .guard⟩ (by simp) rfl).2 90 rfl
                    exact .inr ⟨by show (y 22 == some true) = false; rw [yg]; rfl, rfl⟩
                  rcases i with _ | i
                  · obtain rfl := Option.some.inj ho
                    have yg : y 22 = some false := (hdep ⟨22, .guard⟩ (by simp) rfl).2 90 rfl
                    exact .inr ⟨by show (y 22 == some true) = false; rw [yg]; rfl, rfl⟩
                  rcases i with _ | i
                  · obtain rfl := Option.some.inj ho
                    have yg : y 22 = some false := (hdep ⟨22, .guard⟩ (by simp) rfl).2 90 rfl
                    exact .inr ⟨by show (y 22 == some true) = false; rw [yg]; rfl, rfl⟩
                  rcases i with _ | i
                  · obtain rfl := Option.some.inj ho
                    have yg : y 22 = some false := (hdep ⟨22, .guard⟩ (by simp) rfl).2 90 rfl
                    exact .inr ⟨by show (y 22 == some true) = false; rw [yg]; rfl, rfl⟩
                  rcases i with _ | i
                  · obtain rfl := Option.some.inj ho
                    have yg : y 22 = some false := (hdep ⟨22, .guard⟩ (by simp) rfl).2 90 rfl
                    exact .inr ⟨by show (y 22 == some true) = false; rw [yg]; rfl, rfl⟩
                  rcases i with _ | i
                  · obtain rfl := Option.some.inj ho
                    have yg : y 22 = some false := (hdep ⟨22, .guard⟩ (by simp) rfl).2 90 rfl
                    exact .inr ⟨by show (y 22 == some true) = false; rw [yg]; rfl, rfl⟩
                  rcases i with _ | i
                  · obtain rfl := Option.some.inj ho
                    have yg : y 22 = some false := (hdep ⟨22, .guard⟩ (by simp) rfl).2 90 rfl
                    exact .inr ⟨by show (y 22 == some true) = false; rw [yg]; rfl, rfl⟩
                  rcases i with _ | i
                  · obtain rfl := Option.some.inj ho
                    have yg : y 22 = some false := (hdep ⟨22, .guard⟩ (by simp) rfl).2 90 rfl
                    exact .inr ⟨by show (y 22 == some true) = false; rw [yg]; rfl, rfl⟩
                  rcases i with _ | i
                  · obtain rfl := Option.some.inj ho
                    have yg : y 22 = some false := (hdep ⟨22, .guard⟩ (by simp) rfl).2 90 rfl
                    exact .inr ⟨by show (y 22 == some true) = false; rw [yg]; rfl, rfl⟩
                  rcases i with _ | i
                  · obtain rfl := Option.some.inj ho
                    have yg : y 22 = some false := (hdep ⟨22, .guard⟩ (by simp) rfl).2 90 rfl
                    exact .inr ⟨by show (y 22 == some true) = false; rw [yg]; rfl, rfl⟩
                  rcases i with _ | i
                  · obtain rfl := Option.some.inj ho
                    have yg : y 22 = some false := (hdep ⟨22, .guard⟩ (by simp) rfl).2 90 rfl
                    exact .inr ⟨by show (y 22 == some true) = false; rw [yg]; rfl, rfl⟩
                  rcases i with _ | i
                  · obtain rfl := Option.some.inj ho
                    have e22 : ρ (.tmp 90) = .bool false := (hdep ⟨22, .data⟩ (by simp) rfl).1 90 rfl
                    have e35 : ρ (.tmp 103) = undef := (hdep ⟨35, .data⟩ (by simp) rfl).1 103 rfl
                    have yg : y 19 = some false := (hdep ⟨19, .guard⟩ (by simp) rfl).2 87 rfl
                    have ocn : ∀ v, ρ (.const v) = v := fun v => hout (.const v) rfl
                    clear hdep hout
                    refine .inl ⟨(by show (y 19 == some false) = true; rw [yg]; rfl), (Gives.val ?_ : Gives _ _ _ (.bool false) _)⟩
                    go_simp
                  rcases i with _ | i
                  · obtain rfl := Option.some.inj ho
                    have e19 : ρ (.tmp 87) = .bool false := (hdep ⟨19, .data⟩ (by simp) rfl).1 87 rfl
                    have e36 : ρ (.tmp 104) = .bool false := (hdep ⟨36, .data⟩ (by simp) rfl).1 104 rfl
                    have ocn : ∀ v, ρ (.const v) = v := fun v => hout (.const v) rfl
                    clear hdep hout
                    refine .inl ⟨rfl, (Gives.val ?_ : Gives _ _ _ (.bool false) _)⟩
                    go_simp
                  cases ho
                case fin =>
                  intro x hBx
                  have HBN : Hid (Below x0.heap.size x0 x) := (HB.out.trans (hBx.mono HB.out.size))
                  have KBN := KB.out.laterH hBx
                  have HLN := HLL.out.later hBx
                  clear HB KB HLL hBx a4 l4
                  go_wp2_with fail
                  go_roundw
                  case rel =>
                    refine ⟨kk + 1, by omega, by go_num, HBN.out, KBN.out, HLN, fun j hj => ?_⟩
                    rcases (by omega : j < kk ∨ j = kk) with h | rfl
                    · exact hd.out j h
                    · rw [HI.out, h5, h0]; simp [HK0.out]
                  case measure => simp [RowKit.intOf]; omega
              · have hgt : (0 : Int) < (kk : Int) := by omega
                obtain ⟨km, hkm⟩ : ∃ km, kk = km + 1 := ⟨kk - 1, by omega⟩
                obtain ⟨p0, p1⟩ := HPV.out km hkm
                have hkmn : (km : Int) < (nc : Int) := by omega
                have HI2 : Hid (callG q C kk = callLtF (C (km * 2), C (km * 2 + 1)) (s0, s1)) := by show _ = _; rw [HI.out, h5, h0, show kk - 1 = km by omega]; simp [hk0]
                clear HI HPV
                have HKM : Hid (kk = km + 1) := hkm
                clear hkm
                generalize C (km * 2) = t0 at *
                generalize C (km * 2 + 1) = t1 at *
                cases h7 : callLtF (t0, t1) (s0, s1)
                · have HSL : Hid (∀ z : World, Calls Tryz.prog 54 #[.agg #[.int .i64 t0, .int .i64 t1], .agg #[.int .i64 s0, .int .i64 s1]] z fun e y => e = .returned (.bool false) ∧ Below z.heap.size z y) := fun z => by have := callLess_any (t0, t1) (s0, s1) z; rw [h7] at this; exact this
                  refine wp_region_vals (by kernel_rfl) (by kernel_rfl) (by kernel_rfl) (by kernel_rfl) (fun j => [.slice pl LC.length cl, .pointer (some ⟨x0.heap.size, 4, none⟩), .slice (some ⟨g, o, none⟩) nc cc, .int .i64 ↑kk, .pointer (some ⟨g, o + kk * 2, none⟩), .pointer (some ⟨g, o + kk * 2, none⟩), .int .i64 s0, .bool true, .bool false, .bool false, .pointer (some ⟨x0.heap.size, 4, none⟩), .slice (some ⟨g, o, none⟩) nc cc, .int .i64 ↑kk, .pointer (some ⟨g, o + kk * 2, none⟩), .pointer (some ⟨g, o + kk * 2 + 1, none⟩), .int .i64 s1, .bool true, .bool false, .bool false, .bool false, .int .i64 ↑kk, .bool true, .bool true, .pointer (some ⟨x0.heap.size, 4, none⟩), .slice (some ⟨g, o, none⟩) nc cc, .int .i64 ↑kk, .int .i64 ↑km, .pointer (some ⟨g, o + km * 2, none⟩), .agg #[.int .i64 t0, .int .i64 t1], .pointer (some ⟨x0.heap.size, 4, none⟩), .slice (some ⟨g, o, none⟩) nc cc, .int .i64 ↑kk, .pointer (some ⟨g, o + kk * 2, none⟩), .agg #[.int .i64 s0, .int .i64 s1], .bool false, .bool true, .bool true, .bool true].getD j undef) wr (Below.drew (Below.refl _ _)) ?step ⟨#[.slice pp pn cp, .int .i64 ↑k0, .agg #[.bool a, .int .i64 l, .int .i64 uu, .slice ps k cs, .slice (some ⟨g, o, none⟩) nc cc], undef, undef, .pointer (some ⟨x0.heap.size, 0, none⟩), u6, .int .i64 ↑k, .slice pl LC.length cl, .int .i64 ↑kk, .pointer (some ⟨x0.heap.size, 0, none⟩), .agg #[.bool a, .int .i64 l, .int .i64 uu], .bool true, .bool false, .int .i64 ↑k, .pointer (some ⟨x0.heap.size, 3, none⟩), .slice ps k cs, .int .i64 ↑k, .bool false, u19, u20, u21, u22, u23, u24, u25, u26, u27, u28, u29, u30, u31, u32, u33, u34, u35, u36, u37, u38, u39, u40, u41, u42, u43, u44, u45, u46, u47, u48, u49, u50, u51, u52, u53, u54, u55, u56, u57, .slice pp pn cp, .int .i64 ↑k0, .slice pl LC.length cl, .int .i64 ↑kk, .pointer (some ⟨x0.heap.size, 4, none⟩), .slice (some ⟨g, o, none⟩) nc cc, .int .i64 ↑nc, .bool true, u66, u67, .slice pl LC.length cl, .pointer (some ⟨x0.heap.size, 4, none⟩), .slice (some ⟨g, o, none⟩) nc cc, .int .i64 ↑kk, .pointer (some ⟨g, o + kk * 2, none⟩), .pointer (some ⟨g, o + kk * 2, none⟩), .int .i64 s0, .bool true, .bool false, .bool false, .pointer (some ⟨x0.heap.size, 4, none⟩), .slice (some ⟨g, o, none⟩) nc cc, .int .i64 ↑kk, .pointer (some ⟨g, o + kk * 2, none⟩), .pointer (some ⟨g, o + kk * 2 + 1, none⟩), .int .i64 s1, .bool true, .bool false, .bool false, .bool false, .int .i64 ↑kk, .bool true, .bool true, .pointer (some ⟨x0.heap.size, 4, none⟩), .slice (some ⟨g, o, none⟩) nc cc, .int .i64 ↑kk, .int .i64 ↑km, .pointer (some ⟨g, o + km * 2, none⟩), .agg #[.int .i64 t0, .int .i64 t1], .pointer (some ⟨x0.heap.size, 4, none⟩), .slice (some ⟨g, o, none⟩) nc cc, .int .i64 ↑kk, .pointer (some ⟨g, o + kk * 2, none⟩), .agg #[.int .i64 s0, .int .i64 s1], .bool false, .bool true, .bool true, .bool true], []⟩ (by kernel_rfl) ?fin
                  case step =>
                    intro i o ho ρ y x hBx hdep hout
                    rcases i with _ | i
                    · obtain rfl := Option.some.inj ho
                      have o8 : ρ (.tmp 8) = .slice pl LC.length cl := hout (.tmp 8) rfl
                      clear hdep hout
                      refine .inl ⟨rfl, (Gives.val ?_ : Gives _ _ _ (.slice pl LC.length cl) _)⟩
                      go_simp
                    rcases i with _ | i
                    · obtain rfl := Option.some.inj ho
                      have o5 : ρ (.tmp 5) = .pointer (some ⟨x0.heap.size, 0, none⟩) := hout (.tmp 5) rfl
                      clear hdep hout
                      refine .inl ⟨rfl, (Gives.val ?_ : Gives _ _ _ (.pointer (some ⟨x0.heap.size, 4, none⟩)) _)⟩
                      go_simp
                    rcases i with _ | i
                    · obtain rfl := Option.some.inj ho
                      have e1 : ρ (.tmp 69) = .pointer (some ⟨x0.heap.size, 4, none⟩) := (hdep ⟨1, .data⟩ (by simp) rfl).1 69 rfl
                      clear hdep hout
                      have kb := KB.out.later hBx
                      have c3 := kb.c 3 _ rfl
                      have c4 := kb.c 4 _ rfl
                      have cl0 := kb.lt
                      refine .inl ⟨rfl, (Gives.val ?_ : Gives _ _ _ (.slice (some ⟨g, o, none⟩) nc cc) _)⟩
                      go_simp
                    rcases i with _ | i
                    · obtain rfl := Option.some.inj ho
                      have o9 : ρ (.tmp 9) = .int .i64 ↑kk := hout (.tmp 9) rfl
                      clear hdep hout
                      refine .inl ⟨rfl, (Gives.val ?_ : Gives _ _ _ (.int .i64 ↑kk) _)⟩
                      go_simp
                    rcases i with _ | i
                    · obtain rfl := Option.some.inj ho
                      have e2 : ρ (.tmp 70) = .slice (some ⟨g, o, none⟩) nc cc := (hdep ⟨2, .data⟩ (by simp) rfl).1 70 rfl
                      have e3 : ρ (.tmp 71) = .int .i64 ↑kk := (hdep ⟨3, .data⟩ (by simp) rfl).1 71 rfl
                      clear hdep hout
                      refine .inl ⟨rfl, (Gives.val ?_ : Gives _ _ _ (.pointer (some ⟨g, o + kk * 2, none⟩)) _)⟩
                      go_simp
                    rcases i with _ | i
                    · obtain rfl := Option.some.inj ho
                      have e4 : ρ (.tmp 72) = .pointer (some ⟨g, o + kk * 2, none⟩) := (hdep ⟨4, .data⟩ (by simp) rfl).1 72 rfl
                      clear hdep hout
                      refine .inl ⟨rfl, (Gives.val ?_ : Gives _ _ _ (.pointer (some ⟨g, o + kk * 2, none⟩)) _)⟩
                      go_simp
                    rcases i with _ | i
                    · obtain rfl := Option.some.inj ho
                      have e5 : ρ (.tmp 73) = .pointer (some ⟨g, o + kk * 2, none⟩) := (hdep ⟨5, .data⟩ (by simp) rfl).1 73 rfl
                      clear hdep hout
                      have hbz := (HB.out.trans (hBx.mono HB.out.size))
                      have jq0 := (hbz.cell (p := ⟨g, o + kk * 2, none⟩) hgx).trans q0
                      have jq1 := (hbz.cell (p := ⟨g, o + kk * 2 + 1, none⟩) hgx).trans q1
                      refine .inl ⟨rfl, (Gives.val ?_ : Gives _ _ _ (.int .i64 s0) _)⟩
                      go_simp
                    rcases i with _ | i
                    · obtain rfl := Option.some.inj ho
                      have e0 : ρ (.tmp 68) = .slice pl LC.length cl := (hdep ⟨0, .data⟩ (by simp) rfl).1 68 rfl
                      have e6 : ρ (.tmp 74) = .int .i64 s0 := (hdep ⟨6, .data⟩ (by simp) rfl).1 74 rfl
                      have ofn : ∀ f, ρ (.func f) = .func (.func f) #[] #[] := fun f => hout (.func f) rfl
                      clear hdep hout
                      refine .inl ⟨?_, ?_⟩
                      · rfl
                      show Gives _ _ _ (.bool true) _
                      refine Gives.call (HHS.out x hBx) ?_
                      go_simp
                    rcases i with _ | i
                    · obtain rfl := Option.some.inj ho
                      have e7 : ρ (.tmp 75) = .bool true := (hdep ⟨7, .data⟩ (by simp) rfl).1 75 rfl
                      clear hdep hout
                      refine .inl ⟨rfl, (Gives.val ?_ : Gives _ _ _ (.bool false) _)⟩
                      go_simp
                    rcases i with _ | i
                    · obtain rfl := Option.some.inj ho
                      have e8 : ρ (.tmp 76) = .bool false := (hdep ⟨8, .data⟩ (by simp) rfl).1 76 rfl
                      clear hdep hout
                      refine .inl ⟨rfl, (Gives.val ?_ : Gives _ _ _ (.bool false) _)⟩
                      go_simp
                    rcases i with _ | i
                    · obtain rfl := Option.some.inj ho
                      have o5 : ρ (.tmp 5) = .pointer (some ⟨x0.heap.size, 0, none⟩) := hout (.tmp 5) rfl
                      have yg : y 9 = some false := (hdep ⟨9, .guard⟩ (by simp) rfl).2 77 rfl
                      clear hdep hout
                      refine .inl ⟨(by show (y 9 == some false) = true; rw [yg]; rfl), (Gives.val ?_ : Gives _ _ _ (.pointer (some ⟨x0.heap.size, 4, none⟩)) _)⟩
                      go_simp
                    rcases i with _ | i
                    · obtain rfl := Option.some.inj ho
                      have e10 : ρ (.tmp 78) = .pointer (some ⟨x0.heap.size, 4, none⟩) := (hdep ⟨10, .data⟩ (by simp) rfl).1 78 rfl
                      have yg : y 9 = some false := (hdep ⟨9, .guard⟩ (by simp) rfl).2 77 rfl
                      clear hdep hout
                      have kb := KB.out.later hBx
                      have c3 := kb.c 3 _ rfl
                      have c4 := kb.c 4 _ rfl
                      have cl0 := kb.lt
                      refine .inl ⟨(by show (y 9 == some false) = true; rw [yg]; rfl), (Gives.val ?_ : Gives _ _ _ (.slice (some ⟨g, o, none⟩) nc cc) _)⟩
                      go_simp
                    rcases i with _ | i
                    · obtain rfl := Option.some.inj ho
                      have o9 : ρ (.tmp 9) = .int .i64 ↑kk := hout (.tmp 9) rfl
                      have yg : y 9 = some false := (hdep ⟨9, .guard⟩ (by simp) rfl).2 77 rfl
                      clear hdep hout
                      refine .inl ⟨(by show (y 9 == some false) = true; rw [yg]; rfl), (Gives.val ?_ : Gives _ _ _ (.int .i64 ↑kk) _)⟩
                      go_simp
                    rcases i with _ | i
                    · obtain rfl := Option.some.inj ho
                      have e11 : ρ (.tmp 79) = .slice (some ⟨g, o, none⟩) nc cc := (hdep ⟨11, .data⟩ (by simp) rfl).1 79 rfl
                      have e12 : ρ (.tmp 80) = .int .i64 ↑kk := (hdep ⟨12, .data⟩ (by simp) rfl).1 80 rfl
                      have yg : y 9 = some false := (hdep ⟨9, .guard⟩ (by simp) rfl).2 77 rfl
                      clear hdep hout
                      refine .inl ⟨(by show (y 9 == some false) = true; rw [yg]; rfl), (Gives.val ?_ : Gives _ _ _ (.pointer (some ⟨g, o + kk * 2, none⟩)) _)⟩
                      go_simp
                    rcases i with _ | i
                    · obtain rfl := Option.some.inj ho
                      have e13 : ρ (.tmp 81) = .pointer (some ⟨g, o + kk * 2, none⟩) := (hdep ⟨13, .data⟩ (by simp) rfl).1 81 rfl
                      have yg : y 9 = some false := (hdep ⟨9, .guard⟩ (by simp) rfl).2 77 rfl
                      clear hdep hout
                      refine .inl ⟨(by show (y 9 == some false) = true; rw [yg]; rfl), (Gives.val ?_ : Gives _ _ _ (.pointer (some ⟨g, o + kk * 2 + 1, none⟩)) _)⟩
                      go_simp
                    rcases i with _ | i
                    · obtain rfl := Option.some.inj ho
                      have e14 : ρ (.tmp 82) = .pointer (some ⟨g, o + kk * 2 + 1, none⟩) := (hdep ⟨14, .data⟩ (by simp) rfl).1 82 rfl
                      have yg : y 9 = some false := (hdep ⟨9, .guard⟩ (by simp) rfl).2 77 rfl
                      clear hdep hout
                      have hbz := (HB.out.trans (hBx.mono HB.out.size))
                      have jq0 := (hbz.cell (p := ⟨g, o + kk * 2, none⟩) hgx).trans q0
                      have jq1 := (hbz.cell (p := ⟨g, o + kk * 2 + 1, none⟩) hgx).trans q1
                      refine .inl ⟨(by show (y 9 == some false) = true; rw [yg]; rfl), (Gives.val ?_ : Gives _ _ _ (.int .i64 s1) _)⟩
                      go_simp
                    rcases i with _ | i
                    · obtain rfl := Option.some.inj ho
                      have e15 : ρ (.tmp 83) = .int .i64 s1 := (hdep ⟨15, .data⟩ (by simp) rfl).1 83 rfl
                      have yg : y 9 = some false := (hdep ⟨9, .guard⟩ (by simp) rfl).2 77 rfl
                      have ocn : ∀ v, ρ (.const v) = v := fun v => hout (.const v) rfl
                      have ofn : ∀ f, ρ (.func f) = .func (.func f) #[] #[] := fun f => hout (.func f) rfl
                      clear hdep hout
                      refine .inl ⟨?_, ?_⟩
                      · show (y 9 == some false) = true
                        rw [yg]; rfl
                      show Gives _ _ _ (.bool true) _
                      refine Gives.call (l6In_b s1 0 2 true h5 x) ?_
                      go_simp
                    rcases i with _ | i
                    · obtain rfl := Option.some.inj ho
                      have e16 : ρ (.tmp 84) = .bool true := (hdep ⟨16, .data⟩ (by simp) rfl).1 84 rfl
                      have yg : y 9 = some false := (hdep ⟨9, .guard⟩ (by simp) rfl).2 77 rfl
                      clear hdep hout
                      refine .inl ⟨(by show (y 9 == some false) = true; rw [yg]; rfl), (Gives.val ?_ : Gives _ _ _ (.bool false) _)⟩
                      go_simp
                    rcases i with _ | i
                    · obtain rfl := Option.some.inj ho
                      have e9 : ρ (.tmp 77) = .bool false := (hdep ⟨9, .data⟩ (by simp) rfl).1 77 rfl
                      have e17 : ρ (.tmp 85) = .bool false := (hdep ⟨17, .data⟩ (by simp) rfl).1 85 rfl
                      have ocn : ∀ v, ρ (.const v) = v := fun v => hout (.const v) rfl
                      clear hdep hout
                      refine .inl ⟨rfl, (Gives.val ?_ : Gives _ _ _ (.bool false) _)⟩
                      go_simp
                    rcases i with _ | i
                    · obtain rfl := Option.some.inj ho
                      have e18 : ρ (.tmp 86) = .bool false := (hdep ⟨18, .data⟩ (by simp) rfl).1 86 rfl
                      clear hdep hout
                      refine .inl ⟨rfl, (Gives.val ?_ : Gives _ _ _ (.bool false) _)⟩
                      go_simp
                    rcases i with _ | i
                    · obtain rfl := Option.some.inj ho
                      have o9 : ρ (.tmp 9) = .int .i64 ↑kk := hout (.tmp 9) rfl
                      have yg : y 19 = some false := (hdep ⟨19, .guard⟩ (by simp) rfl).2 87 rfl
                      clear hdep hout
                      refine .inl ⟨(by show (y 19 == some false) = true; rw [yg]; rfl), (Gives.val ?_ : Gives _ _ _ (.int .i64 ↑kk) _)⟩
                      go_simp
                    rcases i with _ | i
                    · obtain rfl := Option.some.inj ho
                      have e20 : ρ (.tmp 88) = .int .i64 ↑kk := (hdep ⟨20, .data⟩ (by simp) rfl).1 88 rfl
                      have yg : y 19 = some false := (hdep ⟨19, .guard⟩ (by simp) rfl).2 87 rfl
                      have ocn : ∀ v, ρ (.const v) = v := fun v => hout (.const v) rfl
                      clear hdep hout
                      refine .inl ⟨(by show (y 19 == some false) = true; rw [yg]; rfl), (Gives.val ?_ : Gives _ _ _ (.bool true) _)⟩
                      (go_simp; have hkm := HKM.out; omega)
                    rcases i with _ | i
                    · obtain rfl := Option.some.inj ho
                      have e21 : ρ (.tmp 89) = .bool true := (hdep ⟨21, .data⟩ (by simp) rfl).1 89 rfl
                      have yg : y 19 = some false := (hdep ⟨19, .guard⟩ (by simp) rfl).2 87 rfl
                      clear hdep hout
                      refine .inl ⟨(by show (y 19 == some false) = true; rw [yg]; rfl), (Gives.val ?_ : Gives _ _ _ (.bool true) _)⟩
                      go_simp
                    rcases i with _ | i
                    · obtain rfl := Option.some.inj ho
                      have o5 : ρ (.tmp 5) = .pointer (some ⟨x0.heap.size, 0, none⟩) := hout (.tmp 5) rfl
                      have yg : y 22 = some true := (hdep ⟨22, .guard⟩ (by simp) rfl).2 90 rfl
                      clear hdep hout
                      refine .inl ⟨(by show (y 22 == some true) = true; rw [yg]; rfl), (Gives.val ?_ : Gives _ _ _ (.pointer (some ⟨x0.heap.size, 4, none⟩)) _)⟩
                      go_simp
                    rcases i with _ | i
                    · obtain rfl := Option.some.inj ho
                      have e23 : ρ (.tmp 91) = .pointer (some ⟨x0.heap.size, 4, none⟩) := (hdep ⟨23, .data⟩ (by simp) rfl).1 91 rfl
                      have yg : y 22 = some true := (hdep ⟨22, .guard⟩ (by simp) rfl).2 90 rfl
                      clear hdep hout
                      have kb := KB.out.later hBx
                      have c3 := kb.c 3 _ rfl
                      have c4 := kb.c 4 _ rfl
                      have cl0 := kb.lt
                      refine .inl ⟨(by show (y 22 == some true) = true; rw [yg]; rfl), (Gives.val ?_ : Gives _ _ _ (.slice (some ⟨g, o, none⟩) nc cc) _)⟩
                      go_simp
                    rcases i with _ | i
                    · obtain rfl := Option.some.inj ho
                      have o9 : ρ (.tmp 9) = .int .i64 ↑kk := hout (.tmp 9) rfl
                      have yg : y 22 = some true := (hdep ⟨22, .guard⟩ (by simp) rfl).2 90 rfl
                      clear hdep hout
                      refine .inl ⟨(by show (y 22 == some true) = true; rw [yg]; rfl), (Gives.val ?_ : Gives _ _ _ (.int .i64 ↑kk) _)⟩
                      go_simp
                    rcases i with _ | i
                    · obtain rfl := Option.some.inj ho
                      have e25 : ρ (.tmp 93) = .int .i64 ↑kk := (hdep ⟨25, .data⟩ (by simp) rfl).1 93 rfl
                      have yg : y 22 = some true := (hdep ⟨22, .guard⟩ (by simp) rfl).2 90 rfl
                      have ocn : ∀ v, ρ (.const v) = v := fun v => hout (.const v) rfl
                      clear hdep hout
                      refine .inl ⟨(by show (y 22 == some true) = true; rw [yg]; rfl), (Gives.val ?_ : Gives _ _ _ (.int .i64 ↑km) _)⟩
                      (go_simp; have hkm := HKM.out; exact (IntWalk.i64_in _ (by omega)).trans (by omega))
                    rcases i with _ | i
                    · obtain rfl := Option.some.inj ho
                      have e24 : ρ (.tmp 92) = .slice (some ⟨g, o, none⟩) nc cc := (hdep ⟨24, .data⟩ (by simp) rfl).1 92 rfl
                      have e26 : ρ (.tmp 94) = .int .i64 ↑km := (hdep ⟨26, .data⟩ (by simp) rfl).1 94 rfl
                      have yg : y 22 = some true := (hdep ⟨22, .guard⟩ (by simp) rfl).2 90 rfl
                      clear hdep hout
                      refine .inl ⟨(by show (y 22 == some true) = true; rw [yg]; rfl), (Gives.val ?_ : Gives _ _ _ (.pointer (some ⟨g, o + km * 2, none⟩)) _)⟩
                      go_simp
                    rcases i with _ | i
                    · obtain rfl := Option.some.inj ho
                      have e27 : ρ (.tmp 95) = .pointer (some ⟨g, o + km * 2, none⟩) := (hdep ⟨27, .data⟩ (by simp) rfl).1 95 rfl
                      have yg : y 22 = some true := (hdep ⟨22, .guard⟩ (by simp) rfl).2 90 rfl
                      clear hdep hout
                      have hbz := (HB.out.trans (hBx.mono HB.out.size))
                      have jp0 := (hbz.cell (p := ⟨g, o + km * 2, none⟩) hgx).trans p0
                      have jp1 := (hbz.cell (p := ⟨g, o + km * 2 + 1, none⟩) hgx).trans p1
                      refine .inl ⟨(by show (y 22 == some true) = true; rw [yg]; rfl), (Gives.val ?_ : Gives _ _ _ (.agg #[.int .i64 t0, .int .i64 t1]) _)⟩
                      go_simp
                    rcases i with _ | i
                    · obtain rfl := Option.some.inj ho
                      have o5 : ρ (.tmp 5) = .pointer (some ⟨x0.heap.size, 0, none⟩) := hout (.tmp 5) rfl
                      have yg : y 22 = some true := (hdep ⟨22, .guard⟩ (by simp) rfl).2 90 rfl
                      clear hdep hout
                      refine .inl ⟨(by show (y 22 == some true) = true; rw [yg]; rfl), (Gives.val ?_ : Gives _ _ _ (.pointer (some ⟨x0.heap.size, 4, none⟩)) _)⟩
                      go_simp
                    rcases i with _ | i
                    · obtain rfl := Option.some.inj ho
                      have e29 : ρ (.tmp 97) = .pointer (some ⟨x0.heap.size, 4, none⟩) := (hdep ⟨29, .data⟩ (by simp) rfl).1 97 rfl
                      have yg : y 22 = some true := (hdep ⟨22, .guard⟩ (by simp) rfl).2 90 rfl
                      clear hdep hout
                      have kb := KB.out.later hBx
                      have c3 := kb.c 3 _ rfl
                      have c4 := kb.c 4 _ rfl
                      have cl0 := kb.lt
                      refine .inl ⟨(by show (y 22 == some true) = true; rw [yg]; rfl), (Gives.val ?_ : Gives _ _ _ (.slice (some ⟨g, o, none⟩) nc cc) _)⟩
                      go_simp
                    rcases i with _ | i
                    · obtain rfl := Option.some.inj ho
                      have o9 : ρ (.tmp 9) = .int .i64 ↑kk := hout (.tmp 9) rfl
                      have yg : y 22 = some true := (hdep ⟨22, .guard⟩ (by simp) rfl).2 90 rfl
                      clear hdep hout
                      refine .inl ⟨(by show (y 22 == some true) = true; rw [yg]; rfl), (Gives.val ?_ : Gives _ _ _ (.int .i64 ↑kk) _)⟩
                      go_simp
                    rcases i with _ | i
                    · obtain rfl := Option.some.inj ho
                      have e30 : ρ (.tmp 98) = .slice (some ⟨g, o, none⟩) nc cc := (hdep ⟨30, .data⟩ (by simp) rfl).1 98 rfl
                      have e31 : ρ (.tmp 99) = .int .i64 ↑kk := (hdep ⟨31, .data⟩ (by simp) rfl).1 99 rfl
                      have yg : y 22 = some true := (hdep ⟨22, .guard⟩ (by simp) rfl).2 90 rfl
                      clear hdep hout
                      refine .inl ⟨(by show (y 22 == some true) = true; rw [yg]; rfl), (Gives.val ?_ : Gives _ _ _ (.pointer (some ⟨g, o + kk * 2, none⟩)) _)⟩
                      go_simp
                    rcases i with _ | i
                    · obtain rfl := Option.some.inj ho
                      have e32 : ρ (.tmp 100) = .pointer (some ⟨g, o + kk * 2, none⟩) := (hdep ⟨32, .data⟩ (by simp) rfl).1 100 rfl
                      have yg : y 22 = some true := (hdep ⟨22, .guard⟩ (by simp) rfl).2 90 rfl
                      clear hdep hout
                      have hbz := (HB.out.trans (hBx.mono HB.out.size))
                      have jq0 := (hbz.cell (p := ⟨g, o + kk * 2, none⟩) hgx).trans q0
                      have jq1 := (hbz.cell (p := ⟨g, o + kk * 2 + 1, none⟩) hgx).trans q1
                      refine .inl ⟨(by show (y 22 == some true) = true; rw [yg]; rfl), (Gives.val ?_ : Gives _ _ _ (.agg #[.int .i64 s0, .int .i64 s1]) _)⟩
                      go_simp
                    rcases i with _ | i
                    · obtain rfl := Option.some.inj ho
                      have e28 : ρ (.tmp 96) = .agg #[.int .i64 t0, .int .i64 t1] := (hdep ⟨28, .data⟩ (by simp) rfl).1 96 rfl
                      have e33 : ρ (.tmp 101) = .agg #[.int .i64 s0, .int .i64 s1] := (hdep ⟨33, .data⟩ (by simp) rfl).1 101 rfl
                      have yg : y 22 = some true := (hdep ⟨22, .guard⟩ (by simp) rfl).2 90 rfl
                      have ofn : ∀ f, ρ (.func f) = .func (.func f) #[] #[] := fun f => hout (.func f) rfl
                      clear hdep hout
                      refine .inl ⟨?_, ?_⟩
                      · show (y 22 == some true) = true
                        rw [yg]; rfl
                      show Gives _ _ _ (.bool false) _
                      refine Gives.call (HSL.out x) ?_
                      go_simp
                    rcases i with _ | i
                    · obtain rfl := Option.some.inj ho
                      have e34 : ρ (.tmp 102) = .bool false := (hdep ⟨34, .data⟩ (by simp) rfl).1 102 rfl
                      have yg : y 22 = some true := (hdep ⟨22, .guard⟩ (by simp) rfl).2 90 rfl
                      clear hdep hout
                      refine .inl ⟨(by show (y 22 == some true) = true; rw [yg]; rfl), (Gives.val ?_ : Gives _ _ _ (.bool true) _)⟩
                      go_simp
                    rcases i with _ | i
                    · obtain rfl := Option.some.inj ho
                      have e22 : ρ (.tmp 90) = .bool true := (hdep ⟨22, .data⟩ (by simp) rfl).1 90 rfl
                      have e35 : ρ (.tmp 103) = .bool true := (hdep ⟨35, .data⟩ (by simp) rfl).1 103 rfl
                      have yg : y 19 = some false := (hdep ⟨19, .guard⟩ (by simp) rfl).2 87 rfl
                      have ocn : ∀ v, ρ (.const v) = v := fun v => hout (.const v) rfl
                      clear hdep hout
                      refine .inl ⟨(by show (y 19 == some false) = true; rw [yg]; rfl), (Gives.val ?_ : Gives _ _ _ (.bool true) _)⟩
                      go_simp
                    rcases i with _ | i
                    · obtain rfl := Option.some.inj ho
                      have e19 : ρ (.tmp 87) = .bool false := (hdep ⟨19, .data⟩ (by simp) rfl).1 87 rfl
                      have e36 : ρ (.tmp 104) = .bool true := (hdep ⟨36, .data⟩ (by simp) rfl).1 104 rfl
                      have ocn : ∀ v, ρ (.const v) = v := fun v => hout (.const v) rfl
                      clear hdep hout
                      refine .inl ⟨rfl, (Gives.val ?_ : Gives _ _ _ (.bool true) _)⟩
                      go_simp
                    cases ho
                  case fin =>
                    intro x hBx
                    have hBf := (HB.out.trans (hBx.mono HB.out.size))
                    go_wp2_with fail
                    go_ret
                    exact ⟨ret_bool (HFN.out (by rw [HI2.out, h7])).symm, hBf⟩
                · have HSL : Hid (∀ z : World, Calls Tryz.prog 54 #[.agg #[.int .i64 t0, .int .i64 t1], .agg #[.int .i64 s0, .int .i64 s1]] z fun e y => e = .returned (.bool true) ∧ Below z.heap.size z y) := fun z => by have := callLess_any (t0, t1) (s0, s1) z; rw [h7] at this; exact this
                  refine wp_region_vals (by kernel_rfl) (by kernel_rfl) (by kernel_rfl) (by kernel_rfl) (fun j => [.slice pl LC.length cl, .pointer (some ⟨x0.heap.size, 4, none⟩), .slice (some ⟨g, o, none⟩) nc cc, .int .i64 ↑kk, .pointer (some ⟨g, o + kk * 2, none⟩), .pointer (some ⟨g, o + kk * 2, none⟩), .int .i64 s0, .bool true, .bool false, .bool false, .pointer (some ⟨x0.heap.size, 4, none⟩), .slice (some ⟨g, o, none⟩) nc cc, .int .i64 ↑kk, .pointer (some ⟨g, o + kk * 2, none⟩), .pointer (some ⟨g, o + kk * 2 + 1, none⟩), .int .i64 s1, .bool true, .bool false, .bool false, .bool false, .int .i64 ↑kk, .bool true, .bool true, .pointer (some ⟨x0.heap.size, 4, none⟩), .slice (some ⟨g, o, none⟩) nc cc, .int .i64 ↑kk, .int .i64 ↑km, .pointer (some ⟨g, o + km * 2, none⟩), .agg #[.int .i64 t0, .int .i64 t1], .pointer (some ⟨x0.heap.size, 4, none⟩), .slice (some ⟨g, o, none⟩) nc cc, .int .i64 ↑kk, .pointer (some ⟨g, o + kk * 2, none⟩), .agg #[.int .i64 s0, .int .i64 s1], .bool true, .bool false, .bool false, .bool false].getD j undef) wr (Below.drew (Below.refl _ _)) ?step ⟨#[.slice pp pn cp, .int .i64 ↑k0, .agg #[.bool a, .int .i64 l, .int .i64 uu, .slice ps k cs, .slice (some ⟨g, o, none⟩) nc cc], undef, undef, .pointer (some ⟨x0.heap.size, 0, none⟩), u6, .int .i64 ↑k, .slice pl LC.length cl, .int .i64 ↑kk, .pointer (some ⟨x0.heap.size, 0, none⟩), .agg #[.bool a, .int .i64 l, .int .i64 uu], .bool true, .bool false, .int .i64 ↑k, .pointer (some ⟨x0.heap.size, 3, none⟩), .slice ps k cs, .int .i64 ↑k, .bool false, u19, u20, u21, u22, u23, u24, u25, u26, u27, u28, u29, u30, u31, u32, u33, u34, u35, u36, u37, u38, u39, u40, u41, u42, u43, u44, u45, u46, u47, u48, u49, u50, u51, u52, u53, u54, u55, u56, u57, .slice pp pn cp, .int .i64 ↑k0, .slice pl LC.length cl, .int .i64 ↑kk, .pointer (some ⟨x0.heap.size, 4, none⟩), .slice (some ⟨g, o, none⟩) nc cc, .int .i64 ↑nc, .bool true, u66, u67, .slice pl LC.length cl, .pointer (some ⟨x0.heap.size, 4, none⟩), .slice (some ⟨g, o, none⟩) nc cc, .int .i64 ↑kk, .pointer (some ⟨g, o + kk * 2, none⟩), .pointer (some ⟨g, o + kk * 2, none⟩), .int .i64 s0, .bool true, .bool false, .bool false, .pointer (some ⟨x0.heap.size, 4, none⟩), .slice (some ⟨g, o, none⟩) nc cc, .int .i64 ↑kk, .pointer (some ⟨g, o + kk * 2, none⟩), .pointer (some ⟨g, o + kk * 2 + 1, none⟩), .int .i64 s1, .bool true, .bool false, .bool false, .bool false, .int .i64 ↑kk, .bool true, .bool true, .pointer (some ⟨x0.heap.size, 4, none⟩), .slice (some ⟨g, o, none⟩) nc cc, .int .i64 ↑kk, .int .i64 ↑km, .pointer (some ⟨g, o + km * 2, none⟩), .agg #[.int .i64 t0, .int .i64 t1], .pointer (some ⟨x0.heap.size, 4, none⟩), .slice (some ⟨g, o, none⟩) nc cc, .int .i64 ↑kk, .pointer (some ⟨g, o + kk * 2, none⟩), .agg #[.int .i64 s0, .int .i64 s1], .bool true, .bool false, .bool false, .bool false], []⟩ (by kernel_rfl) ?fin
                  case step =>
                    intro i o ho ρ y x hBx hdep hout
                    rcases i with _ | i
                    · obtain rfl := Option.some.inj ho
                      have o8 : ρ (.tmp 8) = .slice pl LC.length cl := hout (.tmp 8) rfl
                      clear hdep hout
                      refine .inl ⟨rfl, (Gives.val ?_ : Gives _ _ _ (.slice pl LC.length cl) _)⟩
                      go_simp
                    rcases i with _ | i
                    · obtain rfl := Option.some.inj ho
                      have o5 : ρ (.tmp 5) = .pointer (some ⟨x0.heap.size, 0, none⟩) := hout (.tmp 5) rfl
                      clear hdep hout
                      refine .inl ⟨rfl, (Gives.val ?_ : Gives _ _ _ (.pointer (some ⟨x0.heap.size, 4, none⟩)) _)⟩
                      go_simp
                    rcases i with _ | i
                    · obtain rfl := Option.some.inj ho
                      have e1 : ρ (.tmp 69) = .pointer (some ⟨x0.heap.size, 4, none⟩) := (hdep ⟨1, .data⟩ (by simp) rfl).1 69 rfl
                      clear hdep hout
                      have kb := KB.out.later hBx
                      have c3 := kb.c 3 _ rfl
                      have c4 := kb.c 4 _ rfl
                      have cl0 := kb.lt
                      refine .inl ⟨rfl, (Gives.val ?_ : Gives _ _ _ (.slice (some ⟨g, o, none⟩) nc cc) _)⟩
                      go_simp
                    rcases i with _ | i
                    · obtain rfl := Option.some.inj ho
                      have o9 : ρ (.tmp 9) = .int .i64 ↑kk := hout (.tmp 9) rfl
                      clear hdep hout
                      refine .inl ⟨rfl, (Gives.val ?_ : Gives _ _ _ (.int .i64 ↑kk) _)⟩
                      go_simp
                    rcases i with _ | i
                    · obtain rfl := Option.some.inj ho
                      have e2 : ρ (.tmp 70) = .slice (some ⟨g, o, none⟩) nc cc := (hdep ⟨2, .data⟩ (by simp) rfl).1 70 rfl
                      have e3 : ρ (.tmp 71) = .int .i64 ↑kk := (hdep ⟨3, .data⟩ (by simp) rfl).1 71 rfl
                      clear hdep hout
                      refine .inl ⟨rfl, (Gives.val ?_ : Gives _ _ _ (.pointer (some ⟨g, o + kk * 2, none⟩)) _)⟩
                      go_simp
                    rcases i with _ | i
                    · obtain rfl := Option.some.inj ho
                      have e4 : ρ (.tmp 72) = .pointer (some ⟨g, o + kk * 2, none⟩) := (hdep ⟨4, .data⟩ (by simp) rfl).1 72 rfl
                      clear hdep hout
                      refine .inl ⟨rfl, (Gives.val ?_ : Gives _ _ _ (.pointer (some ⟨g, o + kk * 2, none⟩)) _)⟩
                      go_simp
                    rcases i with _ | i
                    · obtain rfl := Option.some.inj ho
                      have e5 : ρ (.tmp 73) = .pointer (some ⟨g, o + kk * 2, none⟩) := (hdep ⟨5, .data⟩ (by simp) rfl).1 73 rfl
                      clear hdep hout
                      have hbz := (HB.out.trans (hBx.mono HB.out.size))
                      have jq0 := (hbz.cell (p := ⟨g, o + kk * 2, none⟩) hgx).trans q0
                      have jq1 := (hbz.cell (p := ⟨g, o + kk * 2 + 1, none⟩) hgx).trans q1
                      refine .inl ⟨rfl, (Gives.val ?_ : Gives _ _ _ (.int .i64 s0) _)⟩
                      go_simp
                    rcases i with _ | i
                    · obtain rfl := Option.some.inj ho
                      have e0 : ρ (.tmp 68) = .slice pl LC.length cl := (hdep ⟨0, .data⟩ (by simp) rfl).1 68 rfl
                      have e6 : ρ (.tmp 74) = .int .i64 s0 := (hdep ⟨6, .data⟩ (by simp) rfl).1 74 rfl
                      have ofn : ∀ f, ρ (.func f) = .func (.func f) #[] #[] := fun f => hout (.func f) rfl
                      clear hdep hout
                      refine .inl ⟨?_, ?_⟩
                      · rfl
                      show Gives _ _ _ (.bool true) _
                      refine Gives.call (HHS.out x hBx) ?_
                      go_simp
                    rcases i with _ | i
                    · obtain rfl := Option.some.inj ho
                      have e7 : ρ (.tmp 75) = .bool true := (hdep ⟨7, .data⟩ (by simp) rfl).1 75 rfl
                      clear hdep hout
                      refine .inl ⟨rfl, (Gives.val ?_ : Gives _ _ _ (.bool false) _)⟩
                      go_simp
                    rcases i with _ | i
                    · obtain rfl := Option.some.inj ho
                      have e8 : ρ (.tmp 76) = .bool false := (hdep ⟨8, .data⟩ (by simp) rfl).1 76 rfl
                      clear hdep hout
                      refine .inl ⟨rfl, (Gives.val ?_ : Gives _ _ _ (.bool false) _)⟩
                      go_simp
                    rcases i with _ | i
                    · obtain rfl := Option.some.inj ho
                      have o5 : ρ (.tmp 5) = .pointer (some ⟨x0.heap.size, 0, none⟩) := hout (.tmp 5) rfl
                      have yg : y 9 = some false := (hdep ⟨9, .guard⟩ (by simp) rfl).2 77 rfl
                      clear hdep hout
                      refine .inl ⟨(by show (y 9 == some false) = true; rw [yg]; rfl), (Gives.val ?_ : Gives _ _ _ (.pointer (some ⟨x0.heap.size, 4, none⟩)) _)⟩
                      go_simp
                    rcases i with _ | i
                    · obtain rfl := Option.some.inj ho
                      have e10 : ρ (.tmp 78) = .pointer (some ⟨x0.heap.size, 4, none⟩) := (hdep ⟨10, .data⟩ (by simp) rfl).1 78 rfl
                      have yg : y 9 = some false := (hdep ⟨9, .guard⟩ (by simp) rfl).2 77 rfl
                      clear hdep hout
                      have kb := KB.out.later hBx
                      have c3 := kb.c 3 _ rfl
                      have c4 := kb.c 4 _ rfl
                      have cl0 := kb.lt
                      refine .inl ⟨(by show (y 9 == some false) = true; rw [yg]; rfl), (Gives.val ?_ : Gives _ _ _ (.slice (some ⟨g, o, none⟩) nc cc) _)⟩
                      go_simp
                    rcases i with _ | i
                    · obtain rfl := Option.some.inj ho
                      have o9 : ρ (.tmp 9) = .int .i64 ↑kk := hout (.tmp 9) rfl
                      have yg : y 9 = some false := (hdep ⟨9, .guard⟩ (by simp) rfl).2 77 rfl
                      clear hdep hout
                      refine .inl ⟨(by show (y 9 == some false) = true; rw [yg]; rfl), (Gives.val ?_ : Gives _ _ _ (.int .i64 ↑kk) _)⟩
                      go_simp
                    rcases i with _ | i
                    · obtain rfl := Option.some.inj ho
                      have e11 : ρ (.tmp 79) = .slice (some ⟨g, o, none⟩) nc cc := (hdep ⟨11, .data⟩ (by simp) rfl).1 79 rfl
                      have e12 : ρ (.tmp 80) = .int .i64 ↑kk := (hdep ⟨12, .data⟩ (by simp) rfl).1 80 rfl
                      have yg : y 9 = some false := (hdep ⟨9, .guard⟩ (by simp) rfl).2 77 rfl
                      clear hdep hout
                      refine .inl ⟨(by show (y 9 == some false) = true; rw [yg]; rfl), (Gives.val ?_ : Gives _ _ _ (.pointer (some ⟨g, o + kk * 2, none⟩)) _)⟩
                      go_simp
                    rcases i with _ | i
                    · obtain rfl := Option.some.inj ho
                      have e13 : ρ (.tmp 81) = .pointer (some ⟨g, o + kk * 2, none⟩) := (hdep ⟨13, .data⟩ (by simp) rfl).1 81 rfl
                      have yg : y 9 = some false := (hdep ⟨9, .guard⟩ (by simp) rfl).2 77 rfl
                      clear hdep hout
                      refine .inl ⟨(by show (y 9 == some false) = true; rw [yg]; rfl), (Gives.val ?_ : Gives _ _ _ (.pointer (some ⟨g, o + kk * 2 + 1, none⟩)) _)⟩
                      go_simp
                    rcases i with _ | i
                    · obtain rfl := Option.some.inj ho
                      have e14 : ρ (.tmp 82) = .pointer (some ⟨g, o + kk * 2 + 1, none⟩) := (hdep ⟨14, .data⟩ (by simp) rfl).1 82 rfl
                      have yg : y 9 = some false := (hdep ⟨9, .guard⟩ (by simp) rfl).2 77 rfl
                      clear hdep hout
                      have hbz := (HB.out.trans (hBx.mono HB.out.size))
                      have jq0 := (hbz.cell (p := ⟨g, o + kk * 2, none⟩) hgx).trans q0
                      have jq1 := (hbz.cell (p := ⟨g, o + kk * 2 + 1, none⟩) hgx).trans q1
                      refine .inl ⟨(by show (y 9 == some false) = true; rw [yg]; rfl), (Gives.val ?_ : Gives _ _ _ (.int .i64 s1) _)⟩
                      go_simp
                    rcases i with _ | i
                    · obtain rfl := Option.some.inj ho
                      have e15 : ρ (.tmp 83) = .int .i64 s1 := (hdep ⟨15, .data⟩ (by simp) rfl).1 83 rfl
                      have yg : y 9 = some false := (hdep ⟨9, .guard⟩ (by simp) rfl).2 77 rfl
                      have ocn : ∀ v, ρ (.const v) = v := fun v => hout (.const v) rfl
                      have ofn : ∀ f, ρ (.func f) = .func (.func f) #[] #[] := fun f => hout (.func f) rfl
                      clear hdep hout
                      refine .inl ⟨?_, ?_⟩
                      · show (y 9 == some false) = true
                        rw [yg]; rfl
                      show Gives _ _ _ (.bool true) _
                      refine Gives.call (l6In_b s1 0 2 true h5 x) ?_
                      go_simp
                    rcases i with _ | i
                    · obtain rfl := Option.some.inj ho
                      have e16 : ρ (.tmp 84) = .bool true := (hdep ⟨16, .data⟩ (by simp) rfl).1 84 rfl
                      have yg : y 9 = some false := (hdep ⟨9, .guard⟩ (by simp) rfl).2 77 rfl
                      clear hdep hout
                      refine .inl ⟨(by show (y 9 == some false) = true; rw [yg]; rfl), (Gives.val ?_ : Gives _ _ _ (.bool false) _)⟩
                      go_simp
                    rcases i with _ | i
                    · obtain rfl := Option.some.inj ho
                      have e9 : ρ (.tmp 77) = .bool false := (hdep ⟨9, .data⟩ (by simp) rfl).1 77 rfl
                      have e17 : ρ (.tmp 85) = .bool false := (hdep ⟨17, .data⟩ (by simp) rfl).1 85 rfl
                      have ocn : ∀ v, ρ (.const v) = v := fun v => hout (.const v) rfl
                      clear hdep hout
                      refine .inl ⟨rfl, (Gives.val ?_ : Gives _ _ _ (.bool false) _)⟩
                      go_simp
                    rcases i with _ | i
                    · obtain rfl := Option.some.inj ho
                      have e18 : ρ (.tmp 86) = .bool false := (hdep ⟨18, .data⟩ (by simp) rfl).1 86 rfl
                      clear hdep hout
                      refine .inl ⟨rfl, (Gives.val ?_ : Gives _ _ _ (.bool false) _)⟩
                      go_simp
                    rcases i with _ | i
                    · obtain rfl := Option.some.inj ho
                      have o9 : ρ (.tmp 9) = .int .i64 ↑kk := hout (.tmp 9) rfl
                      have yg : y 19 = some false := (hdep ⟨19, .guard⟩ (by simp) rfl).2 87 rfl
                      clear hdep hout
                      refine .inl ⟨(by show (y 19 == some false) = true; rw [yg]; rfl), (Gives.val ?_ : Gives _ _ _ (.int .i64 ↑kk) _)⟩
                      go_simp
                    rcases i with _ | i
                    · obtain rfl := Option.some.inj ho
                      have e20 : ρ (.tmp 88) = .int .i64 ↑kk := (hdep ⟨20, .data⟩ (by simp) rfl).1 88 rfl
                      have yg : y 19 = some false := (hdep ⟨19, .guard⟩ (by simp) rfl).2 87 rfl
                      have ocn : ∀ v, ρ (.const v) = v := fun v => hout (.const v) rfl
                      clear hdep hout
                      refine .inl ⟨(by show (y 19 == some false) = true; rw [yg]; rfl), (Gives.val ?_ : Gives _ _ _ (.bool true) _)⟩
                      (go_simp; have hkm := HKM.out; omega)
                    rcases i with _ | i
                    · obtain rfl := Option.some.inj ho
                      have e21 : ρ (.tmp 89) = .bool true := (hdep ⟨21, .data⟩ (by simp) rfl).1 89 rfl
                      have yg : y 19 = some false := (hdep ⟨19, .guard⟩ (by simp) rfl).2 87 rfl
                      clear hdep hout
                      refine .inl ⟨(by show (y 19 == some false) = true; rw [yg]; rfl), (Gives.val ?_ : Gives _ _ _ (.bool true) _)⟩
                      go_simp
                    rcases i with _ | i
                    · obtain rfl := Option.some.inj ho
                      have o5 : ρ (.tmp 5) = .pointer (some ⟨x0.heap.size, 0, none⟩) := hout (.tmp 5) rfl
                      have yg : y 22 = some true := (hdep ⟨22, .guard⟩ (by simp) rfl).2 90 rfl
                      clear hdep hout
                      refine .inl ⟨(by show (y 22 == some true) = true; rw [yg]; rfl), (Gives.val ?_ : Gives _ _ _ (.pointer (some ⟨x0.heap.size, 4, none⟩)) _)⟩
                      go_simp
                    rcases i with _ | i
                    · obtain rfl := Option.some.inj ho
                      have e23 : ρ (.tmp 91) = .pointer (some ⟨x0.heap.size, 4, none⟩) := (hdep ⟨23, .data⟩ (by simp) rfl).1 91 rfl
                      have yg : y 22 = some true := (hdep ⟨22, .guard⟩ (by simp) rfl).2 90 rfl
                      clear hdep hout
                      have kb := KB.out.later hBx
                      have c3 := kb.c 3 _ rfl
                      have c4 := kb.c 4 _ rfl
                      have cl0 := kb.lt
                      refine .inl ⟨(by show (y 22 == some true) = true; rw [yg]; rfl), (Gives.val ?_ : Gives _ _ _ (.slice (some ⟨g, o, none⟩) nc cc) _)⟩
                      go_simp
                    rcases i with _ | i
                    · obtain rfl := Option.some.inj ho
                      have o9 : ρ (.tmp 9) = .int .i64 ↑kk := hout (.tmp 9) rfl
                      have yg : y 22 = some true := (hdep ⟨22, .guard⟩ (by simp) rfl).2 90 rfl
                      clear hdep hout
                      refine .inl ⟨(by show (y 22 == some true) = true; rw [yg]; rfl), (Gives.val ?_ : Gives _ _ _ (.int .i64 ↑kk) _)⟩
                      go_simp
                    rcases i with _ | i
                    · obtain rfl := Option.some.inj ho
                      have e25 : ρ (.tmp 93) = .int .i64 ↑kk := (hdep ⟨25, .data⟩ (by simp) rfl).1 93 rfl
                      have yg : y 22 = some true := (hdep ⟨22, .guard⟩ (by simp) rfl).2 90 rfl
                      have ocn : ∀ v, ρ (.const v) = v := fun v => hout (.const v) rfl
                      clear hdep hout
                      refine .inl ⟨(by show (y 22 == some true) = true; rw [yg]; rfl), (Gives.val ?_ : Gives _ _ _ (.int .i64 ↑km) _)⟩
                      (go_simp; have hkm := HKM.out; exact (IntWalk.i64_in _ (by omega)).trans (by omega))
                    rcases i with _ | i
                    · obtain rfl := Option.some.inj ho
                      have e24 : ρ (.tmp 92) = .slice (some ⟨g, o, none⟩) nc cc := (hdep ⟨24, .data⟩ (by simp) rfl).1 92 rfl
                      have e26 : ρ (.tmp 94) = .int .i64 ↑km := (hdep ⟨26, .data⟩ (by simp) rfl).1 94 rfl
                      have yg : y 22 = some true := (hdep ⟨22, .guard⟩ (by simp) rfl).2 90 rfl
                      clear hdep hout
                      refine .inl ⟨(by show (y 22 == some true) = true; rw [yg]; rfl), (Gives.val ?_ : Gives _ _ _ (.pointer (some ⟨g, o + km * 2, none⟩)) _)⟩
                      go_simp
                    rcases i with _ | i
                    · obtain rfl := Option.some.inj ho
                      have e27 : ρ (.tmp 95) = .pointer (some ⟨g, o + km * 2, none⟩) := (hdep ⟨27, .data⟩ (by simp) rfl).1 95 rfl
                      have yg : y 22 = some true := (hdep ⟨22, .guard⟩ (by simp) rfl).2 90 rfl
                      clear hdep hout
                      have hbz := (HB.out.trans (hBx.mono HB.out.size))
                      have jp0 := (hbz.cell (p := ⟨g, o + km * 2, none⟩) hgx).trans p0
                      have jp1 := (hbz.cell (p := ⟨g, o + km * 2 + 1, none⟩) hgx).trans p1
                      refine .inl ⟨(by show (y 22 == some true) = true; rw [yg]; rfl), (Gives.val ?_ : Gives _ _ _ (.agg #[.int .i64 t0, .int .i64 t1]) _)⟩
                      go_simp
                    rcases i with _ | i
                    · obtain rfl := Option.some.inj ho
                      have o5 : ρ (.tmp 5) = .pointer (some ⟨x0.heap.size, 0, none⟩) := hout (.tmp 5) rfl
                      have yg : y 22 = some true := (hdep ⟨22, .guard⟩ (by simp) rfl).2 90 rfl
                      clear hdep hout
                      refine .inl ⟨(by show (y 22 == some true) = true; rw [yg]; rfl), (Gives.val ?_ : Gives _ _ _ (.pointer (some ⟨x0.heap.size, 4, none⟩)) _)⟩
                      go_simp
                    rcases i with _ | i
                    · obtain rfl := Option.some.inj ho
                      have e29 : ρ (.tmp 97) = .pointer (some ⟨x0.heap.size, 4, none⟩) := (hdep ⟨29, .data⟩ (by simp) rfl).1 97 rfl
                      have yg : y 22 = some true := (hdep ⟨22, .guard⟩ (by simp) rfl).2 90 rfl
                      clear hdep hout
                      have kb := KB.out.later hBx
                      have c3 := kb.c 3 _ rfl
                      have c4 := kb.c 4 _ rfl
                      have cl0 := kb.lt
                      refine .inl ⟨(by show (y 22 == some true) = true; rw [yg]; rfl), (Gives.val ?_ : Gives _ _ _ (.slice (some ⟨g, o, none⟩) nc cc) _)⟩
                      go_simp
                    rcases i with _ | i
                    · obtain rfl := Option.some.inj ho
                      have o9 : ρ (.tmp 9) = .int .i64 ↑kk := hout (.tmp 9) rfl
                      have yg : y 22 = some true := (hdep ⟨22, .guard⟩ (by simp) rfl).2 90 rfl
                      clear hdep hout
                      refine .inl ⟨(by show (y 22 == some true) = true; rw [yg]; rfl), (Gives.val ?_ : Gives _ _ _ (.int .i64 ↑kk) _)⟩
                      go_simp
                    rcases i with _ | i
                    · obtain rfl := Option.some.inj ho
                      have e30 : ρ (.tmp 98) = .slice (some ⟨g, o, none⟩) nc cc := (hdep ⟨30, .data⟩ (by simp) rfl).1 98 rfl
                      have e31 : ρ (.tmp 99) = .int .i64 ↑kk := (hdep ⟨31, .data⟩ (by simp) rfl).1 99 rfl
                      have yg : y 22 = some true := (hdep ⟨22, .guard⟩ (by simp) rfl).2 90 rfl
                      clear hdep hout
                      refine .inl ⟨(by show (y 22 == some true) = true; rw [yg]; rfl), (Gives.val ?_ : Gives _ _ _ (.pointer (some ⟨g, o + kk * 2, none⟩)) _)⟩
                      go_simp
                    rcases i with _ | i
                    · obtain rfl := Option.some.inj ho
                      have e32 : ρ (.tmp 100) = .pointer (some ⟨g, o + kk * 2, none⟩) := (hdep ⟨32, .data⟩ (by simp) rfl).1 100 rfl
                      have yg : y 22 = some true := (hdep ⟨22, .guard⟩ (by simp) rfl).2 90 rfl
                      clear hdep hout
                      have hbz := (HB.out.trans (hBx.mono HB.out.size))
                      have jq0 := (hbz.cell (p := ⟨g, o + kk * 2, none⟩) hgx).trans q0
                      have jq1 := (hbz.cell (p := ⟨g, o + kk * 2 + 1, none⟩) hgx).trans q1
                      refine .inl ⟨(by show (y 22 == some true) = true; rw [yg]; rfl), (Gives.val ?_ : Gives _ _ _ (.agg #[.int .i64 s0, .int .i64 s1]) _)⟩
                      go_simp
                    rcases i with _ | i
                    · obtain rfl := Option.some.inj ho
                      have e28 : ρ (.tmp 96) = .agg #[.int .i64 t0, .int .i64 t1] := (hdep ⟨28, .data⟩ (by simp) rfl).1 96 rfl
                      have e33 : ρ (.tmp 101) = .agg #[.int .i64 s0, .int .i64 s1] := (hdep ⟨33, .data⟩ (by simp) rfl).1 101 rfl
                      have yg : y 22 = some true := (hdep ⟨22, .guard⟩ (by simp) rfl).2 90 rfl
                      have ofn : ∀ f, ρ (.func f) = .func (.func f) #[] #[] := fun f => hout (.func f) rfl
                      clear hdep hout
                      refine .inl ⟨?_, ?_⟩
                      · show (y 22 == some true) = true
                        rw [yg]; rfl
                      show Gives _ _ _ (.bool true) _
                      refine Gives.call (HSL.out x) ?_
                      go_simp
                    rcases i with _ | i
                    · obtain rfl := Option.some.inj ho
                      have e34 : ρ (.tmp 102) = .bool true := (hdep ⟨34, .data⟩ (by simp) rfl).1 102 rfl
                      have yg : y 22 = some true := (hdep ⟨22, .guard⟩ (by simp) rfl).2 90 rfl
                      clear hdep hout
                      refine .inl ⟨(by show (y 22 == some true) = true; rw [yg]; rfl), (Gives.val ?_ : Gives _ _ _ (.bool false) _)⟩
                      go_simp
                    rcases i with _ | i
                    · obtain rfl := Option.some.inj ho
                      have e22 : ρ (.tmp 90) = .bool true := (hdep ⟨22, .data⟩ (by simp) rfl).1 90 rfl
                      have e35 : ρ (.tmp 103) = .bool false := (hdep ⟨35, .data⟩ (by simp) rfl).1 103 rfl
                      have yg : y 19 = some false := (hdep ⟨19, .guard⟩ (by simp) rfl).2 87 rfl
                      have ocn : ∀ v, ρ (.const v) = v := fun v => hout (.const v) rfl
                      clear hdep hout
                      refine .inl ⟨(by show (y 19 == some false) = true; rw [yg]; rfl), (Gives.val ?_ : Gives _ _ _ (.bool false) _)⟩
                      go_simp
                    rcases i with _ | i
                    · obtain rfl := Option.some.inj ho
                      have e19 : ρ (.tmp 87) = .bool false := (hdep ⟨19, .data⟩ (by simp) rfl).1 87 rfl
                      have e36 : ρ (.tmp 104) = .bool false := (hdep ⟨36, .data⟩ (by simp) rfl).1 104 rfl
                      have ocn : ∀ v, ρ (.const v) = v := fun v => hout (.const v) rfl
                      clear hdep hout
                      refine .inl ⟨rfl, (Gives.val ?_ : Gives _ _ _ (.bool false) _)⟩
                      go_simp
                    cases ho
                  case fin =>
                    intro x hBx
                    have HBN : Hid (Below x0.heap.size x0 x) := (HB.out.trans (hBx.mono HB.out.size))
                    have KBN := KB.out.laterH hBx
                    have HLN := HLL.out.later hBx
                    clear HB KB HLL hBx a4 l4
                    go_wp2_with fail
                    go_roundw
                    case rel =>
                      refine ⟨kk + 1, by omega, by go_num, HBN.out, KBN.out, HLN, fun j hj => ?_⟩
                      rcases (by omega : j < kk ∨ j = kk) with h | rfl
                      · exact hd.out j h
                      · rw [HI2.out, h7]
                    case measure => simp [RowKit.intOf]; omega
        · obtain rfl : kk = nc := by omega
          have hki2 : ¬ (kk : Int) < (kk : Int) := by omega
          have HAll : Hid (allB (callG q C) kk = true) := allB_yes hd.out
          go_wp2_with fail
          go_ret
          exact ⟨ret_bool (by rw [HF3.out, HAll.out]), HB.out⟩

end Go.Proofs.YtlkebkajdlgebaaGreat
