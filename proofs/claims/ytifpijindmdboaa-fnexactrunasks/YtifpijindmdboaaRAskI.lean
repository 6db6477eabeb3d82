/-
  Whether a run asks: the contract of the program's RunAsks.
-/
import Derived.Test.YtifpijindmdboaaROkI
namespace Go.Proofs.Ytifpijindmdboaa
open Go.RowKit
set_option linter.unusedVariables false
set_option linter.unusedSimpArgs false

theorem ta_nil_ask (w : World) : Sem.run Try.prog (Instr.typeAssert .nilIface 83 141 true) w = .ok (.tuple #[.agg #[.int .i64 0, .int .i64 0], .bool false]) w := by kernel_rfl
attribute [local go_sem] ta_set_ask ta_move_ask ta_ask_ask ta_do_ask ta_go_ask ta_less_ask ta_same_ask ta_call_ask ta_back_ask ta_hold_ask ta_put_ask ta_get_ask ta_nil_ask

/-- whether the instruction that comes next asks -/
def askF (P : List (List I4)) (F : List Fr) : Bool := if (topF F).t.toNat = (P.getD (topF F).p.toNat []).length then false else decide (((P.getD (topF F).p.toNat []).getD (topF F).t.toNat i0).1 = 3)
def asksF (P : List (List I4)) (F : List Fr) (n e o : Int) (s : Int × Int × Int) : Bool := runF P F n e o s && (decide (e = 0) && askF P F)
/-- what is known of a run that is ok and has not ended -/
theorem runF_top {P : List (List I4)} {F : List Fr} {n o : Int} {s : Int × Int × Int} (h : runF P F n 0 o s = true) : progOkF P = true ∧ 0 < F.length ∧ F.length ≤ 5 ∧ frameF P (topF F) = true := by
  simp only [runF, Bool.and_eq_true, decide_eq_true_eq] at h
  obtain ⟨⟨⟨⟨h1, h2⟩, _⟩, h4⟩, h5⟩ := h
  have h6 : 0 < F.length := by
    simp only [endF, if_true, Bool.and_eq_true, decide_eq_true_eq] at h5
    exact h5.1.1
  refine ⟨h1, h6, h2, ?_⟩
  rw [List.all_eq_true] at h4
  refine h4 _ ?_
  unfold topF
  rw [List.getD_eq_getElem?_getD, List.getElem?_eq_getElem (by omega)]
  exact List.getElem_mem _
theorem frameF_at {P : List (List I4)} {f : Fr} (h : frameF P f = true) : ∃ k a : Nat, f.p = k ∧ f.t = a ∧ k < P.length ∧ a ≤ (P.getD k []).length := by
  simp only [frameF, inI, Bool.and_eq_true, decide_eq_true_eq] at h
  obtain ⟨⟨⟨⟨⟨h1, _⟩, h3⟩, _⟩, _⟩, _⟩ := h
  exact ⟨f.p.toNat, f.t.toNat, by omega, by omega, by omega, by omega⟩

set_option maxRecDepth 100000 in
set_option maxHeartbeats 4000000 in
theorem next_any (x0 : World) (B : Nat) (v : Value) (P : List (List I4)) (h : ProgAt x0 B v P) (m g o fn cs : Nat) (L : List Value) (hb : BxN x0 m (.slice (some ⟨g, o, none⟩) fn cs :: L)) (h0 : 0 < fn) (h5 : fn ≤ 5) (hg : g < x0.heap.size) (k a : Nat) (hk : k < P.length) (hl : P.length ≤ 4) (ha : a ≤ (P.getD k []).length) (h8 : (P.getD k []).length ≤ 8) (c0 : x0.cell? ⟨g, o + (fn - 1) * 6, none⟩ = some (.int .i64 k)) (c2 : x0.cell? ⟨g, o + (fn - 1) * 6 + 2, none⟩ = some (.int .i64 a)) :
    Calls Try.prog 103 #[.pointer (some ⟨m, 0, none⟩), v] x0 fun e y => e = .returned (insF (P.getD k []) a) ∧ Below x0.heap.size x0 y := by
  obtain ⟨p, cap, rfl, _⟩ := h.shape
  have H : Hid (ProgAt x0 B (.slice p P.length cap) P) := h
  have HT := top_any x0 m g o fn cs (hb.c 0 _ rfl) h0 h5 hb.lt hg
  have HTT : Hid (Calls Try.prog 113 #[.pointer (some ⟨m, 0, none⟩)] x0 fun e y => e = .returned (.pointer (some ⟨g, o + (fn - 1) * 6, none⟩)) ∧ Below x0.heap.size x0 y) := HT
  have HIA : Hid (∀ z : World, Below x0.heap.size x0 z → Calls Try.prog 50 #[.slice p P.length cap, .int .i64 k, .int .i64 a] z fun e y => e = .returned (insF (P.getD k []) a) ∧ Below z.heap.size z y) := fun z hz => insAt_impl z B _ P (H.out.later hz) k a hk hl ha h8
  generalize insF (P.getD k []) a = VI at HIA ⊢
  generalize (fn - 1) * 6 = q at *
  clear h hb h0 h5 hk hl ha h8 HT H
  generalize P.length = pn at *
  go_enter Try.func103, Try.ntmps103
  go_wp2_with fail
  refine HTT.out.mono ?_
  rintro e X ⟨rfl, hbx⟩
  have HXB : Hid (Below x0.heap.size x0 X) := hbx
  clear HTT hbx
  go_wp2_with fail
  refine wp_region_vals (by kernel_rfl) (by kernel_rfl) (by kernel_rfl) (by kernel_rfl) (fun j => [.slice p pn cap, .pointer (some ⟨g, o + q, none⟩), .pointer (some ⟨g, o + q, none⟩), .pointer (some ⟨g, o + q, none⟩), .int .i64 k, .pointer (some ⟨g, o + q, none⟩), .pointer (some ⟨g, o + q, none⟩), .pointer (some ⟨g, o + q + 2, none⟩), .int .i64 a, VI, VI].getD j undef) X (Below.drew (Below.refl _ _)) ?step ⟨#[.pointer (some ⟨m, 0, none⟩), .slice p pn cap, undef, undef, VI, .pointer (some ⟨g, o + q, none⟩), .pointer (some ⟨m, 0, none⟩), .pointer (some ⟨g, o + q, none⟩), .slice p pn cap, .pointer (some ⟨g, o + q, none⟩), .pointer (some ⟨g, o + q, none⟩), .pointer (some ⟨g, o + q, none⟩), .int .i64 k, .pointer (some ⟨g, o + q, none⟩), .pointer (some ⟨g, o + q, none⟩), .pointer (some ⟨g, o + q + 2, none⟩), .int .i64 a, VI], []⟩ (by kernel_rfl) ?fin
  case step =>
    intro i o ho ρ y x hBx hdep hout
    rcases i with _ | i
    · obtain rfl := Option.some.inj ho
      have o1 : ρ (.tmp 1) = .slice p pn cap := hout (.tmp 1) rfl
      have ocn : ∀ v, ρ (.const v) = v := fun v => hout (.const v) rfl
      have ofn : ∀ f, ρ (.func f) = .func (.func f) #[] #[] := fun f => hout (.func f) rfl
      clear hdep hout
      refine .inl ⟨?_, ?_⟩
      · rfl
      show Gives _ _ _ (.slice p pn cap) _
      refine Gives.val ?_
      go_simp
    rcases i with _ | i
    · obtain rfl := Option.some.inj ho
      have o5 : ρ (.tmp 5) = .pointer (some ⟨g, o + q, none⟩) := hout (.tmp 5) rfl
      have ocn : ∀ v, ρ (.const v) = v := fun v => hout (.const v) rfl
      have ofn : ∀ f, ρ (.func f) = .func (.func f) #[] #[] := fun f => hout (.func f) rfl
      clear hdep hout
      refine .inl ⟨?_, ?_⟩
      · rfl
      show Gives _ _ _ (.pointer (some ⟨g, o + q, none⟩)) _
      refine Gives.val ?_
      go_simp
    rcases i with _ | i
    · obtain rfl := Option.some.inj ho
      have e1 : ρ (.tmp 9) = .pointer (some ⟨g, o + q, none⟩) := (hdep ⟨1, .data⟩ (by simp) rfl).1 9 rfl
      have ocn : ∀ v, ρ (.const v) = v := fun v => hout (.const v) rfl
      have ofn : ∀ f, ρ (.func f) = .func (.func f) #[] #[] := fun f => hout (.func f) rfl
      clear hdep hout
      refine .inl ⟨?_, ?_⟩
      · rfl
      have hbz := HXB.out.trans (hBx.mono HXB.out.size)
      have u0 := (hbz.cell (p := ⟨g, o + q, none⟩) hg).trans c0
      have u2 := (hbz.cell (p := ⟨g, o + q + 2, none⟩) hg).trans c2
      have hgz : g < x.heap.size := Nat.lt_of_lt_of_le hg hbz.size
      show Gives _ _ _ (.pointer (some ⟨g, o + q, none⟩)) _
      refine Gives.val ?_
      go_simp
    rcases i with _ | i
    · obtain rfl := Option.some.inj ho
      have e2 : ρ (.tmp 10) = .pointer (some ⟨g, o + q, none⟩) := (hdep ⟨2, .data⟩ (by simp) rfl).1 10 rfl
      have ocn : ∀ v, ρ (.const v) = v := fun v => hout (.const v) rfl
      have ofn : ∀ f, ρ (.func f) = .func (.func f) #[] #[] := fun f => hout (.func f) rfl
      clear hdep hout
      refine .inl ⟨?_, ?_⟩
      · rfl
      show Gives _ _ _ (.pointer (some ⟨g, o + q, none⟩)) _
      refine Gives.val ?_
      go_simp
    rcases i with _ | i
    · obtain rfl := Option.some.inj ho
      have e3 : ρ (.tmp 11) = .pointer (some ⟨g, o + q, none⟩) := (hdep ⟨3, .data⟩ (by simp) rfl).1 11 rfl
      have ocn : ∀ v, ρ (.const v) = v := fun v => hout (.const v) rfl
      have ofn : ∀ f, ρ (.func f) = .func (.func f) #[] #[] := fun f => hout (.func f) rfl
      clear hdep hout
      refine .inl ⟨?_, ?_⟩
      · rfl
      have hbz := HXB.out.trans (hBx.mono HXB.out.size)
      have u0 := (hbz.cell (p := ⟨g, o + q, none⟩) hg).trans c0
      have u2 := (hbz.cell (p := ⟨g, o + q + 2, none⟩) hg).trans c2
      have hgz : g < x.heap.size := Nat.lt_of_lt_of_le hg hbz.size
      show Gives _ _ _ (.int .i64 k) _
      refine Gives.val ?_
      go_simp
    rcases i with _ | i
    · obtain rfl := Option.some.inj ho
      have o5 : ρ (.tmp 5) = .pointer (some ⟨g, o + q, none⟩) := hout (.tmp 5) rfl
      have ocn : ∀ v, ρ (.const v) = v := fun v => hout (.const v) rfl
      have ofn : ∀ f, ρ (.func f) = .func (.func f) #[] #[] := fun f => hout (.func f) rfl
      clear hdep hout
      refine .inl ⟨?_, ?_⟩
      · rfl
      show Gives _ _ _ (.pointer (some ⟨g, o + q, none⟩)) _
      refine Gives.val ?_
      go_simp
    rcases i with _ | i
    · obtain rfl := Option.some.inj ho
      have e5 : ρ (.tmp 13) = .pointer (some ⟨g, o + q, none⟩) := (hdep ⟨5, .data⟩ (by simp) rfl).1 13 rfl
      have ocn : ∀ v, ρ (.const v) = v := fun v => hout (.const v) rfl
      have ofn : ∀ f, ρ (.func f) = .func (.func f) #[] #[] := fun f => hout (.func f) rfl
      clear hdep hout
      refine .inl ⟨?_, ?_⟩
      · rfl
      have hbz := HXB.out.trans (hBx.mono HXB.out.size)
      have u0 := (hbz.cell (p := ⟨g, o + q, none⟩) hg).trans c0
      have u2 := (hbz.cell (p := ⟨g, o + q + 2, none⟩) hg).trans c2
      have hgz : g < x.heap.size := Nat.lt_of_lt_of_le hg hbz.size
      show Gives _ _ _ (.pointer (some ⟨g, o + q, none⟩)) _
      refine Gives.val ?_
      go_simp
    rcases i with _ | i
    · obtain rfl := Option.some.inj ho
      have e6 : ρ (.tmp 14) = .pointer (some ⟨g, o + q, none⟩) := (hdep ⟨6, .data⟩ (by simp) rfl).1 14 rfl
      have ocn : ∀ v, ρ (.const v) = v := fun v => hout (.const v) rfl
      have ofn : ∀ f, ρ (.func f) = .func (.func f) #[] #[] := fun f => hout (.func f) rfl
      clear hdep hout
      refine .inl ⟨?_, ?_⟩
      · rfl
      show Gives _ _ _ (.pointer (some ⟨g, o + q + 2, none⟩)) _
      refine Gives.val ?_
      go_simp
    rcases i with _ | i
    · obtain rfl := Option.some.inj ho
      have e7 : ρ (.tmp 15) = .pointer (some ⟨g, o + q + 2, none⟩) := (hdep ⟨7, .data⟩ (by simp) rfl).1 15 rfl
      have ocn : ∀ v, ρ (.const v) = v := fun v => hout (.const v) rfl
      have ofn : ∀ f, ρ (.func f) = .func (.func f) #[] #[] := fun f => hout (.func f) rfl
      clear hdep hout
      refine .inl ⟨?_, ?_⟩
      · rfl
      have hbz := HXB.out.trans (hBx.mono HXB.out.size)
      have u0 := (hbz.cell (p := ⟨g, o + q, none⟩) hg).trans c0
      have u2 := (hbz.cell (p := ⟨g, o + q + 2, none⟩) hg).trans c2
      have hgz : g < x.heap.size := Nat.lt_of_lt_of_le hg hbz.size
      show Gives _ _ _ (.int .i64 a) _
      refine Gives.val ?_
      go_simp
    rcases i with _ | i
    · obtain rfl := Option.some.inj ho
      have e0 : ρ (.tmp 8) = .slice p pn cap := (hdep ⟨0, .data⟩ (by simp) rfl).1 8 rfl
      have e4 : ρ (.tmp 12) = .int .i64 k := (hdep ⟨4, .data⟩ (by simp) rfl).1 12 rfl
      have e8 : ρ (.tmp 16) = .int .i64 a := (hdep ⟨8, .data⟩ (by simp) rfl).1 16 rfl
      have ocn : ∀ v, ρ (.const v) = v := fun v => hout (.const v) rfl
      have ofn : ∀ f, ρ (.func f) = .func (.func f) #[] #[] := fun f => hout (.func f) rfl
      clear hdep hout
      refine .inl ⟨?_, ?_⟩
      · rfl
      show Gives _ _ _ (VI) _
      refine Gives.call (HIA.out x (HXB.out.trans (hBx.mono HXB.out.size))) ?_
      go_simp
    rcases i with _ | i
    · obtain rfl := Option.some.inj ho
      have e9 : ρ (.tmp 17) = VI := (hdep ⟨9, .data⟩ (by simp) rfl).1 17 rfl
      have ocn : ∀ v, ρ (.const v) = v := fun v => hout (.const v) rfl
      have ofn : ∀ f, ρ (.func f) = .func (.func f) #[] #[] := fun f => hout (.func f) rfl
      clear hdep hout
      refine .inl ⟨?_, ?_⟩
      · rfl
      show Gives _ _ _ (VI) _
      refine Gives.val ?_
      go_simp
    cases ho
  case fin =>
    intro x hBx
    have hBf := HXB.out.trans (hBx.mono HXB.out.size)
    go_wp2_with fail
    go_ret
    exact ⟨rfl, hBf⟩

set_option maxRecDepth 100000 in
set_option maxHeartbeats 8000000 in
theorem asks_any (x0 : World) (B : Nat) (v : Value) (P : List (List I4)) (h : ProgAt x0 B v P) (m fn cs : Nat) (s : Option Addr) (F : List Fr) (hF : FrsAt x0 (.slice s F.length cs) F) (n1 n2 n3 n4 n5 n6 : Int) (hb : BxN x0 m [.slice s F.length cs, .int .i64 n1, .int .i64 n2, .int .i64 n3, .int .i64 n4, .int .i64 n5, .int .i64 n6]) (hr : runF P F n1 n2 n3 (n4, n5, n6) = true) :
    Calls Try.prog 72 #[v, .pointer (some ⟨m, 0, none⟩)] x0 fun e y => e = .returned (.bool (decide (n2 = 0) && askF P F)) ∧ Below x0.heap.size x0 y := by
  obtain ⟨p, cap, rfl, _⟩ := h.shape
  have b2 := hb.c 2 _ rfl
  have bl := hb.lt
  by_cases e0 : n2 = 0
  · subst e0
    obtain ⟨hok, hf0, hf5, hfr⟩ := runF_top hr
    obtain ⟨k, a, hp, ht, hk, ha⟩ := frameF_at hfr
    obtain ⟨g, o, rfl, hg, hc⟩ := FrsAt.frame hF (j := F.length - 1) (by omega)
    have hc0 := hc.c0
    have hc2 := hc.c2
    rw [show F.getD (F.length - 1) fr0 = topF F from rfl] at hc0 hc2
    rw [hp] at hc0
    rw [ht] at hc2
    have HN := next_any x0 B _ P h m g o F.length cs _ hb hf0 hf5 hg k a hk (progOkF_len hok).2 ha (progOkF_code hok hk).1 hc0 hc2
    have HNN : Hid (Calls Try.prog 103 #[.pointer (some ⟨m, 0, none⟩), .slice p P.length cap] x0 fun e y => e = .returned (insF (P.getD k []) a) ∧ Below x0.heap.size x0 y) := HN
    have HA : Hid ((decide ((0 : Int) = 0) && askF P F) = (if a = (P.getD k []).length then false else decide (((P.getD k []).getD a i0).1 = 3))) := by
      show _ = _
      simp only [decide_true, Bool.true_and, askF, hp, ht, Int.toNat_natCast]
    have hins := (progOkF_code hok hk).2 a
    generalize hAA : (decide ((0 : Int) = 0) && askF P F) = AA at HA
    clear hAA HN hc hc0 hc2 hF h hb hr hok hfr
    by_cases he : a = (P.getD k []).length
    · have HA2 : Hid (AA = false) := by show AA = _; rw [HA.out, if_pos he]
      rw [show insF (P.getD k []) a = .nilIface by simp only [insF]; rw [if_pos he]] at HNN
      clear HA hins
      generalize P.length = pn at *
      go_enter Try.func72, Try.ntmps72
      go_wp2_with fail
      refine HNN.out.mono ?_
      rintro e y ⟨rfl, hby⟩
      go_wp2_with fail
      go_ret
      exact ⟨retBool HA2.out.symm, by first | exact hby | exact hby.alloc hby.size _⟩
    · have hk12 := insOkF_kind (hins (by omega))
      have HA2 : Hid (AA = decide (((P.getD k []).getD a i0).1 = 3)) := by show AA = _; rw [HA.out, if_neg he]
      rw [show insF (P.getD k []) a = ifcF ((P.getD k []).getD a i0) by simp only [insF]; rw [if_neg he]] at HNN
      clear HA hins
      generalize (P.getD k []).getD a i0 = I at *
      generalize P.length = pn at *
      obtain ⟨K, A, B', C⟩ := I
      obtain ⟨k1, k2, _⟩ := hk12
      simp only at k1 k2 HA2
      obtain rfl | rfl | rfl | rfl | rfl | rfl | rfl | rfl | rfl | rfl | rfl | rfl : K = 1 ∨ K = 2 ∨ K = 3 ∨ K = 4 ∨ K = 5 ∨ K = 6 ∨ K = 7 ∨ K = 8 ∨ K = 9 ∨ K = 10 ∨ K = 11 ∨ K = 12 := by omega
      all_goals
        clear k1 k2
        simp only [ifcF] at HNN
        go_enter Try.func72, Try.ntmps72
        go_wp2_with fail
        refine HNN.out.mono ?_
        rintro e y ⟨rfl, hby⟩
        go_wp2_with fail
        go_ret
        exact ⟨retBool (by rw [HA2.out]; simp), by first | exact hby | exact hby.alloc hby.size _⟩
  · have e0b : (n2 == 0) = false := by simpa using e0
    have hm : Hid (F.length = F.length) := rfl
    clear hF hb hr h
    go_enter Try.func72, Try.ntmps72
    go_wp2_with fail
    go_ret
    exact ⟨retBool (by simp [e0]), Below.refl _ _⟩

set_option maxRecDepth 100000 in
set_option maxHeartbeats 8000000 in
theorem runAsks_impl (x0 : World) (B : Nat) (v : Value) (P : List (List I4)) (h : ProgAt x0 B v P) (s : Value) (F : List Fr) (hF : FrsAt x0 s F) (q : R6) :
    Calls Try.prog 38 #[v, aggRun s q] x0 fun e y => e = .returned (.bool (asksF P F q.1 q.2.1 q.2.2.1 q.2.2.2)) ∧ Below x0.heap.size x0 y := by
  obtain ⟨n1, n2, n3, n4, n5, n6⟩ := q
  obtain ⟨p, cap, rfl, _⟩ := h.shape
  obtain ⟨ps, cs, rfl, _⟩ := hF.shape
  unfold aggRun
  dsimp only
  have H : Hid (ProgAt x0 B (.slice p P.length cap) P) := h
  have HS : Hid (FrsAt x0 (.slice ps F.length cs) F) := hF
  have HAS : Hid (asksF P F n1 n2 n3 (n4, n5, n6) = (runF P F n1 n2 n3 (n4, n5, n6) && (decide (n2 = 0) && askF P F))) := rfl
  have HRK : Hid (∀ z : World, Below x0.heap.size x0 z → Calls Try.prog 40 #[.slice p P.length cap, .agg #[.slice ps F.length cs, .int .i64 n1, .int .i64 n2, .int .i64 n3, .int .i64 n4, .int .i64 n5, .int .i64 n6]] z fun e y => e = .returned (.bool (runF P F n1 n2 n3 (n4, n5, n6))) ∧ Below z.heap.size z y) := fun z hz => runOk_impl z B _ P (H.out.later hz) _ F (HS.out.later hz) (n1, n2, n3, n4, n5, n6)
  have HAK : Hid (∀ z : World, Below x0.heap.size x0 z → ∀ m, BxN z m [.slice ps F.length cs, .int .i64 n1, .int .i64 n2, .int .i64 n3, .int .i64 n4, .int .i64 n5, .int .i64 n6] → runF P F n1 n2 n3 (n4, n5, n6) = true → Calls Try.prog 72 #[.slice p P.length cap, .pointer (some ⟨m, 0, none⟩)] z fun e y => e = .returned (.bool (decide (n2 = 0) && askF P F)) ∧ Below z.heap.size z y) := fun z hz m hm hr => asks_any z B _ P (H.out.later hz) m F.length cs ps F (HS.out.later hz) n1 n2 n3 n4 n5 n6 hm hr
  generalize asksF P F n1 n2 n3 (n4, n5, n6) = AS at HAS
  generalize hR : runF P F n1 n2 n3 (n4, n5, n6) = R at HAS HRK HAK
  generalize (decide (n2 = 0) && askF P F) = AK at HAS HAK
  clear h hF hR H HS
  generalize F.length = fn at *
  generalize P.length = pn at *
  go_enter Try.func38, Try.ntmps38
  go_wp2_with fail
  have HAl : Hid (Below x0.heap.size x0 (x0.alloc (.cells #[.slice ps fn cs, .int .i64 n1, .int .i64 n2, .int .i64 n3, .int .i64 n4, .int .i64 n5, .int .i64 n6] 56))) := (Below.refl _ _).alloc (Nat.le_refl _) _
  have K00 : Hid (BxN (x0.alloc (.cells #[.slice ps fn cs, .int .i64 n1, .int .i64 n2, .int .i64 n3, .int .i64 n4, .int .i64 n5, .int .i64 n6] 56)) x0.heap.size [.slice ps fn cs, .int .i64 n1, .int .i64 n2, .int .i64 n3, .int .i64 n4, .int .i64 n5, .int .i64 n6]) := BxN.new x0 [_, _, _, _, _, _, _] _
  generalize x0.alloc (.cells #[.slice ps fn cs, .int .i64 n1, .int .i64 n2, .int .i64 n3, .int .i64 n4, .int .i64 n5, .int .i64 n6] 56) = X at HAl K00 ⊢
  refine (HRK.out X HAl.out).mono ?_
  rintro e y ⟨rfl, hb⟩
  have HY : Hid (Below x0.heap.size x0 y) := HAl.out.trans (hb.mono HAl.out.size)
  have K1 := K00.out.laterH hb
  clear hb HAl K00 HRK
  cases R
  · go_wp2_with fail
    go_ret
    exact ⟨retBool (by rw [HAS.out]; rfl), HY.out⟩
  · go_wp2_with fail
    refine (HAK.out y HY.out x0.heap.size K1.out trivial).mono ?_
    rintro e z ⟨rfl, hb⟩
    have hB := HY.out.trans (hb.mono HY.out.size)
    go_wp2_with fail
    go_ret
    exact ⟨retBool (by rw [HAS.out]; simp), hB⟩

end Go.Proofs.Ytifpijindmdboaa
