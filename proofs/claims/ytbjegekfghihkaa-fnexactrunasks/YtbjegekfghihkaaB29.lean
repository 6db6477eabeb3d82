import Derived.Test.YtbjegekfghihkaaB28
import Derived.Test.YtbjegekfghihkaaB27
/-
  Whether a run asks: the contract of the program's RunAsks.
-/
namespace Go.Proofs.Ytbjegekfghihkaa
open Go.RowKit
set_option linter.unusedVariables false
set_option linter.unusedSimpArgs false

theorem ta_nil_ask (w : World) : Sem.run Try.prog (Instr.typeAssert .nilIface 74 116 true) w = .ok (.tuple #[.agg #[.int .i64 0, .int .i64 0], .bool false]) w := by kernel_rfl
attribute [local go_sem] ta_set_ask ta_move_ask ta_ask_ask ta_do_ask ta_go_ask ta_less_ask ta_same_ask ta_call_ask ta_back_ask ta_hold_ask ta_put_ask ta_get_ask ta_nil_ask

/-- whether the instruction that comes next asks -/
def askF (P : List (List I4)) (F : List Fr) : Bool := if (topF F).t.toNat = (P.getD (topF F).p.toNat []).length then false else decide (((P.getD (topF F).p.toNat []).getD (topF F).t.toNat i0).1 = 3)
def asksF (P : List (List I4)) (F : List Fr) (n e o : Int) (s : Int × Int × Int) : Bool := runF P F n e o s && (decide (e = 0) && askF P F)
/-- what is known of a run that is ok and has not ended -/
theorem runF_top {P : List (List I4)} {F : List Fr} {n o : Int} {s : Int × Int × Int} (h : runF P F n 0 o s = true) : progOkF P = true ∧ 0 < F.length ∧ F.length ≤ 5 ∧ frameF P (topF F) = true := by
  simp only [runF, Bool.and_eq_true, decide_eq_true_eq] at h
  obtain ⟨⟨⟨⟨h1, h2⟩, _⟩, h4⟩, h5⟩ := h
  have h6 : 0 < F.length := by
    simp only [endF, if_true, Bool.and_eq_true, decide_eq_true_eq] at h5
    exact h5.1.1
  refine ⟨h1, h6, h2, ?_⟩
  rw [List.all_eq_true] at h4
  refine h4 _ ?_
  unfold topF
  rw [List.getD_eq_getElem?_getD, List.getElem?_eq_getElem (by omega)]
  exact List.getElem_mem _
theorem frameF_at {P : List (List I4)} {f : Fr} (h : frameF P f = true) : ∃ k a : Nat, f.p = k ∧ f.t = a ∧ k < P.length ∧ a ≤ (P.getD k []).length := by
  simp only [frameF, inI, Bool.and_eq_true, decide_eq_true_eq] at h
  obtain ⟨⟨⟨⟨⟨h1, _⟩, h3⟩, _⟩, _⟩, _⟩ := h
  exact ⟨f.p.toNat, f.t.toNat, by omega, by omega, by omega, by omega⟩

set_option maxRecDepth 100000 in
set_option maxHeartbeats 4000000 in
theorem next_any (x0 : World) (B : Nat) (v : Value) (P : List (List I4)) (h : ProgAt x0 B v P) (m g o fn cs : Nat) (L : List Value) (hb : BxN x0 m (.slice (some ⟨g, o, none⟩) fn cs :: L)) (h0 : 0 < fn) (h5 : fn ≤ 5) (hg : g < x0.heap.size) (k a : Nat) (hk : k < P.length) (hl : P.length ≤ 4) (ha : a ≤ (P.getD k []).length) (h8 : (P.getD k []).length ≤ 8) (c0 : x0.cell? ⟨g, o + (fn - 1) * 6, none⟩ = some (.int .i64 k)) (c2 : x0.cell? ⟨g, o + (fn - 1) * 6 + 2, none⟩ = some (.int .i64 a)) :
    Calls Try.prog 69 #[.pointer (some ⟨m, 0, none⟩), v] x0 fun e y => e = .returned (insF (P.getD k []) a) ∧ Below x0.heap.size x0 y := by
  obtain ⟨p, cap, rfl, _⟩ := h.shape
  have H : Hid (ProgAt x0 B (.slice p P.length cap) P) := h
  have HT := top_any x0 m g o fn cs (hb.c 0 _ rfl) h0 h5 hb.lt hg
  have HTT : Hid (Calls Try.prog 82 #[.pointer (some ⟨m, 0, none⟩)] x0 fun e y => e = .returned (.pointer (some ⟨g, o + (fn - 1) * 6, none⟩)) ∧ Below x0.heap.size x0 y) := HT
  have HIA : Hid (∀ z : World, Below x0.heap.size x0 z → Calls Try.prog 35 #[.slice p P.length cap, .int .i64 k, .int .i64 a] z fun e y => e = .returned (insF (P.getD k []) a) ∧ Below z.heap.size z y) := fun z hz => insAt_impl z B _ P (H.out.later hz) k a hk hl ha h8
  generalize insF (P.getD k []) a = VI at HIA ⊢
  generalize (fn - 1) * 6 = q at *
  clear h hb h0 h5 hk hl ha h8 HT H
  generalize P.length = pn at *
  go_enter Try.func69, Try.ntmps69
  go_wp2_with fail
  refine HTT.out.mono ?_
  rintro e X ⟨rfl, hbx⟩
  have HXB : Hid (Below x0.heap.size x0 X) := hbx
  clear HTT hbx
  go_wp2_with fail
  refine wp_region_vals (by kernel_rfl) (by kernel_rfl) (by kernel_rfl) (by kernel_rfl) (fun j => [.slice p pn cap, .pointer (some ⟨g, o + q, none⟩), .pointer (some ⟨g, o + q, none⟩), .pointer (some ⟨g, o + q, none⟩), .int .i64 k, .pointer (some ⟨g, o + q, none⟩), .pointer (some ⟨g, o + q, none⟩), .pointer (some ⟨g, o + q + 2, none⟩), .int .i64 a, VI, VI].getD j undef) X (Below.drew (Below.refl _ _)) ?step ⟨#[.pointer (some ⟨m, 0, none⟩), .slice p pn cap, undef, undef, VI, .pointer (some ⟨g, o + q, none⟩), .pointer (some ⟨m, 0, none⟩), .pointer (some ⟨g, o + q, none⟩), .slice p pn cap, .pointer (some ⟨g, o + q, none⟩), .pointer (some ⟨g, o + q, none⟩), .pointer (some ⟨g, o + q, none⟩), .int .i64 k, .pointer (some ⟨g, o + q, none⟩), .pointer (some ⟨g, o + q, none⟩), .pointer (some ⟨g, o + q + 2, none⟩), .int .i64 a, VI], []⟩ (by kernel_rfl) ?fin
  case step =>
    intro i o ho ρ y x hBx hdep hout
    rcases i with _ | i
    · obtain rfl := Option.some.inj ho
      have o1 : ρ (.tmp 1) = .slice p pn cap := hout (.tmp 1) rfl
      have ocn : ∀ v, ρ (.const v) = v := fun v => hout (.const v) rfl
      have ofn : ∀ f, ρ (.func f) = .func (.func f) #[] #[] := fun f => hout (.func f) rfl
      clear hdep hout
      refine .inl ⟨?_, ?_⟩
      · rfl
      show Gives _ _ _ (.slice p pn cap) _
      refine Gives.val ?_
      go_simp
    rcases i with _ | i
    · obtain rfl := Option.some.inj ho
      have o5 : ρ (.tmp 5) = .pointer (some ⟨g, o + q, none⟩) := hout (.tmp 5) rfl
      have ocn : ∀ v, ρ (.const v) = v := fun v => hout (.const v) rfl
      have ofn : ∀ f, ρ (.func f) = .func (.func f) #[] #[] := fun f => hout (.func f) rfl
      clear hdep hout
      refine .inl ⟨?_, ?_⟩
      · rfl
      show Gives _ _ _ (.pointer (some ⟨g, o + q, none⟩)) _
      refine Gives.val ?_
      go_simp
    rcases i with _ | i
    · obtain rfl := Option.some.inj ho
      have e1 : ρ (.tmp 9) = .pointer (some ⟨g, o + q, none⟩) := (hdep ⟨1, .data⟩ (by simp) rfl).1 9 rfl
      have ocn : ∀ v, ρ (.const v) = v := fun v => hout (.const v) rfl
      have ofn : ∀ f, ρ (.func f) = .func (.func f) #[] #[] := fun f => hout (.func f) rfl
      clear hdep hout
      refine .inl ⟨?_, ?_⟩
      · rfl
      have hbz := HXB.out.trans (hBx.mono HXB.out.size)
      have u0 := (hbz.cell (p := ⟨g, o + q, none⟩) hg).trans c0
      have u2 := (hbz.cell (p := ⟨g, o + q + 2, none⟩) hg).trans c2
      have hgz : g < x.heap.size := Nat.lt_of_lt_of_le hg hbz.size
      show Gives _ _ _ (.pointer (some ⟨g, o + q, none⟩)) _
      refine Gives.val ?_
      go_simp
    rcases i with _ | i
    · obtain rfl := Option.some.inj ho
      have e2 : ρ (.tmp 10) = .pointer (some ⟨g, o + q, none⟩) := (hdep ⟨2, .data⟩ (by simp) rfl).1 10 rfl
      have ocn : ∀ v, ρ (.const v) = v := fun v => hout (.const v) rfl
      have ofn : ∀ f, ρ (.func f) = .func (.func f) #[] #[] := fun f => hout (.func f) rfl
      clear hdep hout
      refine .inl ⟨?_, ?_⟩
      · rfl
      show Gives _ _ _ (.pointer (some ⟨g, o + q, none⟩)) _
      refine Gives.val ?_
      go_simp
    rcases i with _ | i
    · obtain rfl := Option.some.inj ho
      have e3 : ρ (.tmp 11) = .pointer (some ⟨g, o + q, none⟩) := (hdep ⟨3, .data⟩ (by simp) rfl).1 11 rfl
      have ocn : ∀ v, ρ (.const v) = v := fun v => hout (.const v) rfl
      have ofn : ∀ f, ρ (.func f) = .func (.func f) #[] #[] := fun f => hout (.func f) rfl
      clear hdep hout
      refine .inl ⟨?_, ?_⟩
      · rfl
      have hbz := HXB.out.trans (hBx.mono HXB.out.size)
      have u0 := (hbz.cell (p := ⟨g, o + q, none⟩) hg).trans c0
      have u2 := (hbz.cell (p := ⟨g, o + q + 2, none⟩) hg).trans c2
      have hgz : g < x.heap.size := Nat.lt_of_lt_of_le hg hbz.size
      show Gives _ _ _ (.int .i64 k) _
      refine Gives.val ?_
      go_simp
    rcases i with _ | i
    · obtain rfl := Option.some.inj ho
      have o5 : ρ (.tmp 5) = .pointer (some ⟨g, o + q, none⟩) := hout (.tmp 5) rfl
      have ocn : ∀ v, ρ (.const v) = v := fun v => hout (.const v) rfl
      have ofn : ∀ f, ρ (.func f) = .func (.func f) #[] #[] := fun f => hout (.func f) rfl
      clear hdep hout
      refine .inl ⟨?_, ?_⟩
      · rfl
      show Gives _ _ _ (.pointer (some ⟨g, o + q, none⟩)) _
      refine Gives.val ?_
      go_simp
    rcases i with _ | i
    · obtain rfl := Option.some.inj ho
      have e5 : ρ (.tmp 13) = .pointer (some ⟨g, o + q, none⟩) := (hdep ⟨5, .data⟩ (by simp) rfl).1 13 rfl
      have ocn : ∀ v, ρ (.const v) = v := fun v => hout (.const v) rfl
      have ofn : ∀ f, ρ (.func f) = .func (.func f) #[] #[] := fun f => hout (.func f) rfl
      clear hdep hout
      refine .inl ⟨?_, ?_⟩
      · rfl
      have hbz := HXB.out.trans (hBx.mono HXB.out.size)
      have u0 := (hbz.cell (p := ⟨g, o + q, none⟩) hg).trans c0
      have u2 := (hbz.cell (p := ⟨g, o + q + 2, none⟩) hg).trans c2
      have hgz : g < x.heap.size := Nat.lt_of_lt_of_le hg hbz.size
      show Gives _ _ _ (.pointer (some ⟨g, o + q, none⟩)) _
      refine Gives.val ?_
      go_simp
    rcases i with _ | i
    · obtain rfl := Option.some.inj ho
      have e6 : ρ (.tmp 14) = .pointer (some ⟨g, o + q, none⟩) := (hdep ⟨6, .data⟩ (by simp) rfl).1 14 rfl
      have ocn : ∀ v, ρ (.const v) = v := fun v => hout (.const v) rfl
      have ofn : ∀ f, ρ (.func f) = .func (.func f) #[] #[] := fun f => hout (.func f) rfl
      clear hdep hout
      refine .inl ⟨?_, ?_⟩
      · rfl
      show Gives _ _ _ (.pointer (some ⟨g, o + q + 2, none⟩)) _
      refine Gives.val ?_
      go_simp
    rcases i with _ | i
    · obtain rfl := Option.some.inj ho
      have e7 : ρ (.tmp 15) = .pointer (some ⟨g, o + q + 2, none⟩) := (hdep ⟨7, .data⟩ (by simp) rfl).1 15 rfl
      have ocn : ∀ v, ρ (.const v) = v := fun v => hout (.const v) rfl
      have ofn : ∀ f, ρ (.func f) = .func (.func f) #[] #[] := fun f => hout (.func f) rfl
      clear hdep hout
      refine .inl ⟨?_, ?_⟩
      · rfl
      have hbz := HXB.out.trans (hBx.mono HXB.out.size)
      have u0 := (hbz.cell (p := ⟨g, o + q, none⟩) hg).trans c0
      have u2 := (hbz.cell (p := ⟨g, o + q + 2, none⟩) hg).trans c2
      have hgz : g < x.heap.size := Nat.lt_of_lt_of_le hg hbz.size
      show Gives _ _ _ (.int .i64 a) _
      refine Gives.val ?_
      go_simp
    rcases i with _ | i
    · obtain rfl := Option.some.inj ho
      have e0 : ρ (.tmp 8) = .slice p pn cap := (hdep ⟨0, .data⟩ (by simp) rfl).1 8 rfl
      have e4 : ρ (.tmp 12) = .int .i64 k := (hdep ⟨4, .data⟩ (by simp) rfl).1 12 rfl
      have e8 : ρ (.tmp 16) = .int .i64 a := (hdep ⟨8, .data⟩ (by simp) rfl).1 16 rfl
      have ocn : ∀ v, ρ (.const v) = v := fun v => hout (.const v) rfl
      have ofn : ∀ f, ρ (.func f) = .func (.func f) #[] #[] := fun f => hout (.func f) rfl
      clear hdep hout
      refine .inl ⟨?_, ?_⟩
      · rfl
      show Gives _ _ _ (VI) _
      refine Gives.call (HIA.out x (HXB.out.trans (hBx.mono HXB.out.size))) ?_
      go_simp
    rcases i with _ | i
    · obtain rfl := Option.some.inj ho
      have e9 : ρ (.tmp 17) = VI := (hdep ⟨9, .data⟩ (by simp) rfl).1 17 rfl
      have ocn : ∀ v, ρ (.const v) = v := fun v => hout (.const v) rfl
      have ofn : ∀ f, ρ (.func f) = .func (.func f) #[] #[] := fun f => hout (.func f) rfl
      clear hdep hout
      refine .inl ⟨?_, ?_⟩
      · rfl
      show Gives _ _ _ (VI) _
      refine Gives.val ?_
      go_simp
    cases ho
  case fin =>
    intro x hBx
    have hBf := HXB.out.trans (hBx.mono HXB.out.size)
    go_wp2_with fail
    go_ret
    exact ⟨rfl, hBf⟩

set_option maxRecDepth 100000 in
set_option maxHeartbeats 8000000 in
theorem asks_any (x0 : World) (B : Nat) (v : Value) (P : List (List I4)) (h : ProgAt x0 B v P) (m fn cs : Nat) (s : Option Addr) (F : List Fr) (hF : FrsAt x0 (.slice s F.length cs) F) (n1 n2 n3 n4 n5 n6 : Int) (hb : BxN x0 m [.slice s F.length cs, .int .i64 n1, .int .i64 n2, .int .i64 n3, .int .i64 n4, .int .i64 n5, .int .i64 n6]) (hr : runF P F n1 n2 n3 (n4, n5, n6) = true) :
    Calls Try.prog 46 #[v, .pointer (some ⟨m, 0, none⟩)] x0 fun e y => e = .returned (.bool (decide (n2 = 0) && askF P F)) ∧ Below x0.heap.size x0 y := by
  obtain ⟨p, cap, rfl, _⟩ := h.shape
  have b2 := hb.c 2 _ rfl
  have bl := hb.lt
  by_cases e0 : n2 = 0
  · subst e0
    obtain ⟨hok, hf0, hf5, hfr⟩ := runF_top hr
    obtain ⟨k, a, hp, ht, hk, ha⟩ := frameF_at hfr
    obtain ⟨g, o, rfl, hg, hc⟩ := FrsAt.frame hF (j := F.length - 1) (by omega)
    have hc0 := hc.c0
    have hc2 := hc.c2
    rw [show F.getD (F.length - 1) fr0 = topF F from rfl] at hc0 hc2
    rw [hp] at hc0
    rw [ht] at hc2
    have HN := next_any x0 B _ P h m g o F.length cs _ hb hf0 hf5 hg k a hk (progOkF_len hok).2 ha (progOkF_code hok hk).1 hc0 hc2
    have HNN : Hid (Calls Try.prog 69 #[.pointer (some ⟨m, 0, none⟩), .slice p P.length cap] x0 fun e y => e = .returned (insF (P.getD k []) a) ∧ Below x0.heap.size x0 y) := HN
    have HA : Hid ((decide ((0 : Int) = 0) && askF P F) = (if a = (P.getD k []).length then false else decide (((P.getD k []).getD a i0).1 = 3))) := by
      show _ = _
      simp only [decide_true, Bool.true_and, askF, hp, ht, Int.toNat_natCast]
    have hins := (progOkF_code hok hk).2 a
    generalize hAA : (decide ((0 : Int) = 0) && askF P F) = AA at HA
    clear hAA HN hc hc0 hc2 hF h hb hr hok hfr
    by_cases he : a = (P.getD k []).length
    · have HA2 : Hid (AA = false) := by show AA = _; rw [HA.out, if_pos he]
      rw [show insF (P.getD k []) a = .nilIface by simp only [insF]; rw [if_pos he]] at HNN
      clear HA hins
      generalize P.length = pn at *
      go_enter Try.func46, Try.ntmps46
      go_wp2_with fail
      refine HNN.out.mono ?_
      rintro e y ⟨rfl, hby⟩
      go_wp2_with fail
      go_ret
      exact ⟨retBool HA2.out.symm, by first | exact hby | exact hby.alloc hby.size _⟩
    · have hk12 := insOkF_kind (hins (by omega))
      have HA2 : Hid (AA = decide (((P.getD k []).getD a i0).1 = 3)) := by show AA = _; rw [HA.out, if_neg he]
      rw [show insF (P.getD k []) a = ifcF ((P.getD k []).getD a i0) by simp only [insF]; rw [if_neg he]] at HNN
      clear HA hins
      generalize (P.getD k []).getD a i0 = I at *
      generalize P.length = pn at *
      obtain ⟨K, A, B', C⟩ := I
      obtain ⟨k1, k2, _⟩ := hk12
      simp only at k1 k2 HA2
      obtain rfl | rfl | rfl | rfl | rfl | rfl | rfl | rfl | rfl | rfl | rfl | rfl : K = 1 ∨ K = 2 ∨ K = 3 ∨ K = 4 ∨ K = 5 ∨ K = 6 ∨ K = 7 ∨ K = 8 ∨ K = 9 ∨ K = 10 ∨ K = 11 ∨ K = 12 := by omega
      all_goals
        clear k1 k2
        simp only [ifcF] at HNN
        go_enter Try.func46, Try.ntmps46
        go_wp2_with fail
        refine HNN.out.mono ?_
        rintro e y ⟨rfl, hby⟩
        go_wp2_with fail
        go_ret
        exact ⟨retBool (by rw [HA2.out]; simp), by first | exact hby | exact hby.alloc hby.size _⟩
  · have e0b : (n2 == 0) = false := by simpa using e0
    have hm : Hid (F.length = F.length) := rfl
    clear hF hb hr h
    go_enter Try.func46, Try.ntmps46
    go_wp2_with fail
    go_ret
    exact ⟨retBool (by simp [e0]), Below.refl _ _⟩

set_option maxRecDepth 100000 in
set_option maxHeartbeats 8000000 in
theorem runAsks_impl (x0 : World) (B : Nat) (v : Value) (P : List (List I4)) (h : ProgAt x0 B v P) (s : Value) (F : List Fr) (hF : FrsAt x0 s F) (q : R6) :
    Calls Try.prog 22 #[v, aggRun s q] x0 fun e y => e = .returned (.bool (asksF P F q.1 q.2.1 q.2.2.1 q.2.2.2)) ∧ Below x0.heap.size x0 y := by
  obtain ⟨n1, n2, n3, n4, n5, n6⟩ := q
  obtain ⟨p, cap, rfl, _⟩ := h.shape
  obtain ⟨ps, cs, rfl, _⟩ := hF.shape
  unfold aggRun
  dsimp only
  have H : Hid (ProgAt x0 B (.slice p P.length cap) P) := h
  have HS : Hid (FrsAt x0 (.slice ps F.length cs) F) := hF
  have HAS : Hid (asksF P F n1 n2 n3 (n4, n5, n6) = (runF P F n1 n2 n3 (n4, n5, n6) && (decide (n2 = 0) && askF P F))) := rfl
  have HRK : Hid (∀ z : World, Below x0.heap.size x0 z → Calls Try.prog 25 #[.slice p P.length cap, .agg #[.slice ps F.length cs, .int .i64 n1, .int .i64 n2, .int .i64 n3, .int .i64 n4, .int .i64 n5, .int .i64 n6]] z fun e y => e = .returned (.bool (runF P F n1 n2 n3 (n4, n5, n6))) ∧ Below z.heap.size z y) := fun z hz => runOk_impl z B _ P (H.out.later hz) _ F (HS.out.later hz) (n1, n2, n3, n4, n5, n6)
  have HAK : Hid (∀ z : World, Below x0.heap.size x0 z → ∀ m, BxN z m [.slice ps F.length cs, .int .i64 n1, .int .i64 n2, .int .i64 n3, .int .i64 n4, .int .i64 n5, .int .i64 n6] → runF P F n1 n2 n3 (n4, n5, n6) = true → Calls Try.prog 46 #[.slice p P.length cap, .pointer (some ⟨m, 0, none⟩)] z fun e y => e = .returned (.bool (decide (n2 = 0) && askF P F)) ∧ Below z.heap.size z y) := fun z hz m hm hr => asks_any z B _ P (H.out.later hz) m F.length cs ps F (HS.out.later hz) n1 n2 n3 n4 n5 n6 hm hr
  generalize asksF P F n1 n2 n3 (n4, n5, n6) = AS at HAS
  generalize hR : runF P F n1 n2 n3 (n4, n5, n6) = R at HAS HRK HAK
  generalize (decide (n2 = 0) && askF P F) = AK at HAS HAK
  clear h hF hR H HS
  generalize F.length = fn at *
  generalize P.length = pn at *
  go_enter Try.func22, Try.ntmps22
  go_wp2_with fail
  have HAl : Hid (Below x0.heap.size x0 (x0.alloc (.cells #[.slice ps fn cs, .int .i64 n1, .int .i64 n2, .int .i64 n3, .int .i64 n4, .int .i64 n5, .int .i64 n6] 56))) := (Below.refl _ _).alloc (Nat.le_refl _) _
  have K00 : Hid (BxN (x0.alloc (.cells #[.slice ps fn cs, .int .i64 n1, .int .i64 n2, .int .i64 n3, .int .i64 n4, .int .i64 n5, .int .i64 n6] 56)) x0.heap.size [.slice ps fn cs, .int .i64 n1, .int .i64 n2, .int .i64 n3, .int .i64 n4, .int .i64 n5, .int .i64 n6]) := BxN.new x0 [_, _, _, _, _, _, _] _
  generalize x0.alloc (.cells #[.slice ps fn cs, .int .i64 n1, .int .i64 n2, .int .i64 n3, .int .i64 n4, .int .i64 n5, .int .i64 n6] 56) = X at HAl K00 ⊢
  refine (HRK.out X HAl.out).mono ?_
  rintro e y ⟨rfl, hb⟩
  have HY : Hid (Below x0.heap.size x0 y) := HAl.out.trans (hb.mono HAl.out.size)
  have K1 := K00.out.laterH hb
  clear hb HAl K00 HRK
  cases R
  · go_wp2_with fail
    go_ret
    exact ⟨retBool (by rw [HAS.out]; rfl), HY.out⟩
  · go_wp2_with fail
    refine (HAK.out y HY.out x0.heap.size K1.out trivial).mono ?_
    rintro e z ⟨rfl, hb⟩
    have hB := HY.out.trans (hb.mono HY.out.size)
    go_wp2_with fail
    go_ret
    exact ⟨retBool (by rw [HAS.out]; simp), hB⟩

end Go.Proofs.Ytbjegekfghihkaa

/-
  Whether a run is ok by its end: the contract of the model's l3EndOk.
-/
namespace Go.Proofs.Ytbjegekfghihkaa
open Go.RowKit
set_option linter.unusedVariables false
set_option linter.unusedSimpArgs false

theorem endF_two (P : List (List I4)) (F : List Fr) (o n4 n5 n6 : Int) (h : 0 < F.length) (ho : o = 0) (hs : siteOkF P (n4, n5, n6) = true) : endF P F 2 o (n4, n5, n6) = (decide (n4 = (topF F).p) && decide (n5 = (topF F).t)) := by
  simp [endF, h, ho, hs]
theorem beqc (a b : Int) : (a == b) = decide (a = b) := by
  by_cases h : a = b
  · subst h; simp
  · simp [h]

set_option maxRecDepth 100000 in
set_option maxHeartbeats 8000000 in
theorem l3EndOk_G0 (x0 : World) (B : Nat) (v : Value) (P : List (List I4)) (h : ProgAt x0 B v P) (hok : progOkF P = true) (s : Value) (F : List Fr) (hF : FrsAt x0 s F) (hl5 : F.length ≤ 5) (n1 n2 n3 n4 n5 n6 : Int) (hg : F.length = 0) :
    Calls Try.prog 52 #[v, aggRun s (n1, n2, n3, n4, n5, n6)] x0 fun e y => e = .returned (.bool (endF P F n2 n3 (n4, n5, n6))) ∧ Below x0.heap.size x0 y := by
  obtain ⟨p, cap, rfl, _⟩ := h.shape
  obtain ⟨ps, cs, rfl, _⟩ := hF.shape
  unfold aggRun
  dsimp only
  have H : Hid (ProgAt x0 B (.slice p P.length cap) P) := h
  have HOK : Hid (progOkF P = true) := hok
  have HS : Hid (FrsAt x0 (.slice ps F.length cs) F) := hF
  have hl := progOkF_len hok
  have hn4 : (P.length : Int) ≤ 4 := by omega
  have hf5 : (F.length : Int) ≤ 5 := by omega
  clear h hok hF hl
  skip
  generalize hfn : F.length = fn at *
  generalize hpn : P.length = pn at *
  have HFN : Hid (F.length = fn ∧ P.length = pn) := ⟨hfn, hpn⟩
  clear hfn hpn
  subst hg
  by_cases e2 : n2 = 2
  · subst e2
    have HAl : Hid (Below x0.heap.size x0 ((x0.alloc (.cells #[.slice ps 0 cs, .int .i64 n1, .int .i64 2, .int .i64 n3, .int .i64 n4, .int .i64 n5, .int .i64 n6] 56)).alloc (.cells #[.int .i64 0, .int .i64 0, .int .i64 0] 54))) := ((Below.refl _ _).alloc (Nat.le_refl _) _).alloc (by simp) _
    have K00 : Hid (BxN ((x0.alloc (.cells #[.slice ps 0 cs, .int .i64 n1, .int .i64 2, .int .i64 n3, .int .i64 n4, .int .i64 n5, .int .i64 n6] 56)).alloc (.cells #[.int .i64 0, .int .i64 0, .int .i64 0] 54)) x0.heap.size [.slice ps 0 cs, .int .i64 n1, .int .i64 2, .int .i64 n3, .int .i64 n4, .int .i64 n5, .int .i64 n6]) := (BxN.new x0 [_, _, _, _, _, _, _] _).later ((Below.refl _ _).alloc (Nat.le_refl _) _)
    go_enter Try.func52, Try.ntmps52
    go_wp2_with fail
    generalize (x0.alloc (.cells #[.slice ps 0 cs, .int .i64 n1, .int .i64 2, .int .i64 n3, .int .i64 n4, .int .i64 n5, .int .i64 n6] 56)).alloc (.cells #[.int .i64 0, .int .i64 0, .int .i64 0] 54) = X at HAl K00 ⊢
    refine wp_region_vals (by kernel_rfl) (by kernel_rfl) (by kernel_rfl) (by kernel_rfl) (fun j => [.int .i64 0, .bool false, .bool false, undef, undef, undef, .bool false, .bool false, undef, undef, undef, undef, .bool false, .bool false, undef, undef, undef, undef, undef, undef, undef, undef, undef, undef, undef, .bool false, .bool false, undef, undef, undef, undef, undef, undef, undef, undef, undef, undef, undef, .bool false, .bool false].getD j undef) X (Below.drew (Below.refl _ _)) ?step ⟨#[.slice p pn cap, .agg #[.slice ps 0 cs, .int .i64 n1, .int .i64 2, .int .i64 n3, .int .i64 n4, .int .i64 n5, .int .i64 n6], undef, .pointer (some ⟨x0.heap.size, 0, none⟩), .bool false, .int .i64 0, .pointer (some ⟨x0.heap.size + 1, 0, none⟩), .pointer (some ⟨x0.heap.size, 0, none⟩), .slice ps 0 cs, .int .i64 0, .agg #[.int .i64 0, .int .i64 0, .int .i64 0], .pointer (some ⟨x0.heap.size, 2, none⟩), .int .i64 2, .bool false, .bool false, undef, undef, undef, undef, undef, undef, undef, undef, undef, undef, undef, undef, undef, .bool false, .bool false, undef, undef, undef, undef, undef, undef, undef, undef, undef, undef, undef, undef, undef, .bool true, .bool true, .int .i64 0, .bool false, .bool false, undef, undef, undef, .bool false, .bool false, undef, undef, undef, undef, .bool false, .bool false, undef, undef, undef, undef, undef, undef, undef, undef, undef, undef, undef, .bool false, .bool false, undef, undef, undef, undef, undef, undef, undef, undef, undef, undef, undef, .bool false, undef, undef, undef, undef, undef, undef, undef, undef, undef, undef, undef, undef, undef, undef, undef], []⟩ (by kernel_rfl) ?fin
    case step =>
      intro i o ho ρ y x hBx hdep hout
      rcases i with _ | i
      · obtain rfl := Option.some.inj ho
        have o5 : ρ (.tmp 5) = .int .i64 0 := hout (.tmp 5) rfl
        have ocn : ∀ v, ρ (.const v) = v := fun v => hout (.const v) rfl
        have ofn : ∀ f, ρ (.func f) = .func (.func f) #[] #[] := fun f => hout (.func f) rfl
        clear hdep hout
        refine .inl ⟨?_, ?_⟩
        · rfl
        show Gives _ _ _ (.int .i64 0) _
        refine Gives.val ?_
        go_simp
      rcases i with _ | i
      · obtain rfl := Option.some.inj ho
        have e0 : ρ (.tmp 45) = .int .i64 0 := (hdep ⟨0, .data⟩ (by simp) rfl).1 45 rfl
        have ocn : ∀ v, ρ (.const v) = v := fun v => hout (.const v) rfl
        have ofn : ∀ f, ρ (.func f) = .func (.func f) #[] #[] := fun f => hout (.func f) rfl
        clear hdep hout
        refine .inl ⟨?_, ?_⟩
        · rfl
        show Gives _ _ _ (.bool false) _
        refine Gives.val ?_
        go_simp
      rcases i with _ | i
      · obtain rfl := Option.some.inj ho
        have e1 : ρ (.tmp 46) = .bool false := (hdep ⟨1, .data⟩ (by simp) rfl).1 46 rfl
        have ocn : ∀ v, ρ (.const v) = v := fun v => hout (.const v) rfl
        have ofn : ∀ f, ρ (.func f) = .func (.func f) #[] #[] := fun f => hout (.func f) rfl
        clear hdep hout
        refine .inl ⟨?_, ?_⟩
        · rfl
        show Gives _ _ _ (.bool false) _
        refine Gives.val ?_
        go_simp
      rcases i with _ | i
      · obtain rfl := Option.some.inj ho
        have o3 : ρ (.tmp 3) = .pointer (some ⟨x0.heap.size, 0, none⟩) := hout (.tmp 3) rfl
        have yg : y 2 = some false := (hdep ⟨2, .guard⟩ (by simp) rfl).2 47 rfl
        have ocn : ∀ v, ρ (.const v) = v := fun v => hout (.const v) rfl
        have ofn : ∀ f, ρ (.func f) = .func (.func f) #[] #[] := fun f => hout (.func f) rfl
        clear hdep hout
        refine .inr ⟨?_, rfl⟩
        show (y 2 == some true) = false
        rw [yg]; rfl
      rcases i with _ | i
      · obtain rfl := Option.some.inj ho
        have e3 : ρ (.tmp 48) = undef := (hdep ⟨3, .data⟩ (by simp) rfl).1 48 rfl
        have yg : y 2 = some false := (hdep ⟨2, .guard⟩ (by simp) rfl).2 47 rfl
        have ocn : ∀ v, ρ (.const v) = v := fun v => hout (.const v) rfl
        have ofn : ∀ f, ρ (.func f) = .func (.func f) #[] #[] := fun f => hout (.func f) rfl
        clear hdep hout
        refine .inr ⟨?_, rfl⟩
        show (y 2 == some true) = false
        rw [yg]; rfl
      rcases i with _ | i
      · obtain rfl := Option.some.inj ho
        have e4 : ρ (.tmp 49) = undef := (hdep ⟨4, .data⟩ (by simp) rfl).1 49 rfl
        have yg : y 2 = some false := (hdep ⟨2, .guard⟩ (by simp) rfl).2 47 rfl
        have ocn : ∀ v, ρ (.const v) = v := fun v => hout (.const v) rfl
        have ofn : ∀ f, ρ (.func f) = .func (.func f) #[] #[] := fun f => hout (.func f) rfl
        clear hdep hout
        refine .inr ⟨?_, rfl⟩
        show (y 2 == some true) = false
        rw [yg]; rfl
      rcases i with _ | i
      · obtain rfl := Option.some.inj ho
        have e2 : ρ (.tmp 47) = .bool false := (hdep ⟨2, .data⟩ (by simp) rfl).1 47 rfl
        have e5 : ρ (.tmp 50) = undef := (hdep ⟨5, .data⟩ (by simp) rfl).1 50 rfl
        have ocn : ∀ v, ρ (.const v) = v := fun v => hout (.const v) rfl
        have ofn : ∀ f, ρ (.func f) = .func (.func f) #[] #[] := fun f => hout (.func f) rfl
        clear hdep hout
        refine .inl ⟨?_, ?_⟩
        · rfl
        show Gives _ _ _ (.bool false) _
        refine Gives.val ?_
        go_simp
      rcases i with _ | i
      · obtain rfl := Option.some.inj ho
        have e6 : ρ (.tmp 51) = .bool false := (hdep ⟨6, .data⟩ (by simp) rfl).1 51 rfl
        have ocn : ∀ v, ρ (.const v) = v := fun v => hout (.const v) rfl
        have ofn : ∀ f, ρ (.func f) = .func (.func f) #[] #[] := fun f => hout (.func f) rfl
        clear hdep hout
        refine .inl ⟨?_, ?_⟩
        · rfl
        show Gives _ _ _ (.bool false) _
        refine Gives.val ?_
        go_simp
      rcases i with _ | i
      · obtain rfl := Option.some.inj ho
        have o0 : ρ (.tmp 0) = .slice p pn cap := hout (.tmp 0) rfl
        have yg : y 7 = some false := (hdep ⟨7, .guard⟩ (by simp) rfl).2 52 rfl
        have ocn : ∀ v, ρ (.const v) = v := fun v => hout (.const v) rfl
        have ofn : ∀ f, ρ (.func f) = .func (.func f) #[] #[] := fun f => hout (.func f) rfl
        clear hdep hout
        refine .inr ⟨?_, rfl⟩
        show (y 7 == some true) = false
        rw [yg]; rfl
      rcases i with _ | i
      · obtain rfl := Option.some.inj ho
        have o3 : ρ (.tmp 3) = .pointer (some ⟨x0.heap.size, 0, none⟩) := hout (.tmp 3) rfl
        have yg : y 7 = some false := (hdep ⟨7, .guard⟩ (by simp) rfl).2 52 rfl
        have ocn : ∀ v, ρ (.const v) = v := fun v => hout (.const v) rfl
        have ofn : ∀ f, ρ (.func f) = .func (.func f) #[] #[] := fun f => hout (.func f) rfl
        clear hdep hout
        refine .inr ⟨?_, rfl⟩
        show (y 7 == some true) = false
        rw [yg]; rfl
      rcases i with _ | i
      · obtain rfl := Option.some.inj ho
        have e9 : ρ (.tmp 54) = undef := (hdep ⟨9, .data⟩ (by simp) rfl).1 54 rfl
        have yg : y 7 = some false := (hdep ⟨7, .guard⟩ (by simp) rfl).2 52 rfl
        have ocn : ∀ v, ρ (.const v) = v := fun v => hout (.const v) rfl
        have ofn : ∀ f, ρ (.func f) = .func (.func f) #[] #[] := fun f => hout (.func f) rfl
        clear hdep hout
        refine .inr ⟨?_, rfl⟩
        show (y 7 == some true) = false
        rw [yg]; rfl
      rcases i with _ | i
      · obtain rfl := Option.some.inj ho
        have e8 : ρ (.tmp 53) = undef := (hdep ⟨8, .data⟩ (by simp) rfl).1 53 rfl
        have e10 : ρ (.tmp 55) = undef := (hdep ⟨10, .data⟩ (by simp) rfl).1 55 rfl
        have yg : y 7 = some false := (hdep ⟨7, .guard⟩ (by simp) rfl).2 52 rfl
        have ocn : ∀ v, ρ (.const v) = v := fun v => hout (.const v) rfl
        have ofn : ∀ f, ρ (.func f) = .func (.func f) #[] #[] := fun f => hout (.func f) rfl
        clear hdep hout
        refine .inr ⟨?_, rfl⟩
        show (y 7 == some true) = false
        rw [yg]; rfl
      rcases i with _ | i
      · obtain rfl := Option.some.inj ho
        have e7 : ρ (.tmp 52) = .bool false := (hdep ⟨7, .data⟩ (by simp) rfl).1 52 rfl
        have e11 : ρ (.tmp 56) = undef := (hdep ⟨11, .data⟩ (by simp) rfl).1 56 rfl
        have ocn : ∀ v, ρ (.const v) = v := fun v => hout (.const v) rfl
        have ofn : ∀ f, ρ (.func f) = .func (.func f) #[] #[] := fun f => hout (.func f) rfl
        clear hdep hout
        refine .inl ⟨?_, ?_⟩
        · rfl
        show Gives _ _ _ (.bool false) _
        refine Gives.val ?_
        go_simp
      rcases i with _ | i
      · obtain rfl := Option.some.inj ho
        have e12 : ρ (.tmp 57) = .bool false := (hdep ⟨12, .data⟩ (by simp) rfl).1 57 rfl
        have ocn : ∀ v, ρ (.const v) = v := fun v => hout (.const v) rfl
        have ofn : ∀ f, ρ (.func f) = .func (.func f) #[] #[] := fun f => hout (.func f) rfl
        clear hdep hout
        refine .inl ⟨?_, ?_⟩
        · rfl
        show Gives _ _ _ (.bool false) _
        refine Gives.val ?_
        go_simp
      rcases i with _ | i
      · obtain rfl := Option.some.inj ho
        have o3 : ρ (.tmp 3) = .pointer (some ⟨x0.heap.size, 0, none⟩) := hout (.tmp 3) rfl
        have yg : y 13 = some false := (hdep ⟨13, .guard⟩ (by simp) rfl).2 58 rfl
        have ocn : ∀ v, ρ (.const v) = v := fun v => hout (.const v) rfl
        have ofn : ∀ f, ρ (.func f) = .func (.func f) #[] #[] := fun f => hout (.func f) rfl
        clear hdep hout
        refine .inr ⟨?_, rfl⟩
        show (y 13 == some true) = false
        rw [yg]; rfl
      rcases i with _ | i
      · obtain rfl := Option.some.inj ho
        have e14 : ρ (.tmp 59) = undef := (hdep ⟨14, .data⟩ (by simp) rfl).1 59 rfl
        have yg : y 13 = some false := (hdep ⟨13, .guard⟩ (by simp) rfl).2 58 rfl
        have ocn : ∀ v, ρ (.const v) = v := fun v => hout (.const v) rfl
        have ofn : ∀ f, ρ (.func f) = .func (.func f) #[] #[] := fun f => hout (.func f) rfl
        clear hdep hout
        refine .inr ⟨?_, rfl⟩
        show (y 13 == some true) = false
        rw [yg]; rfl
      rcases i with _ | i
      · obtain rfl := Option.some.inj ho
        have e15 : ρ (.tmp 60) = undef := (hdep ⟨15, .data⟩ (by simp) rfl).1 60 rfl
        have yg : y 13 = some false := (hdep ⟨13, .guard⟩ (by simp) rfl).2 58 rfl
        have ocn : ∀ v, ρ (.const v) = v := fun v => hout (.const v) rfl
        have ofn : ∀ f, ρ (.func f) = .func (.func f) #[] #[] := fun f => hout (.func f) rfl
        clear hdep hout
        refine .inr ⟨?_, rfl⟩
        show (y 13 == some true) = false
        rw [yg]; rfl
      rcases i with _ | i
      · obtain rfl := Option.some.inj ho
        have o3 : ρ (.tmp 3) = .pointer (some ⟨x0.heap.size, 0, none⟩) := hout (.tmp 3) rfl
        have yg : y 13 = some false := (hdep ⟨13, .guard⟩ (by simp) rfl).2 58 rfl
        have ocn : ∀ v, ρ (.const v) = v := fun v => hout (.const v) rfl
        have ofn : ∀ f, ρ (.func f) = .func (.func f) #[] #[] := fun f => hout (.func f) rfl
        clear hdep hout
        refine .inr ⟨?_, rfl⟩
        show (y 13 == some true) = false
        rw [yg]; rfl
      rcases i with _ | i
      · obtain rfl := Option.some.inj ho
        have e17 : ρ (.tmp 62) = undef := (hdep ⟨17, .data⟩ (by simp) rfl).1 62 rfl
        have yg : y 13 = some false := (hdep ⟨13, .guard⟩ (by simp) rfl).2 58 rfl
        have ocn : ∀ v, ρ (.const v) = v := fun v => hout (.const v) rfl
        have ofn : ∀ f, ρ (.func f) = .func (.func f) #[] #[] := fun f => hout (.func f) rfl
        clear hdep hout
        refine .inr ⟨?_, rfl⟩
        show (y 13 == some true) = false
        rw [yg]; rfl
      rcases i with _ | i
      · obtain rfl := Option.some.inj ho
        have o5 : ρ (.tmp 5) = .int .i64 0 := hout (.tmp 5) rfl
        have yg : y 13 = some false := (hdep ⟨13, .guard⟩ (by simp) rfl).2 58 rfl
        have ocn : ∀ v, ρ (.const v) = v := fun v => hout (.const v) rfl
        have ofn : ∀ f, ρ (.func f) = .func (.func f) #[] #[] := fun f => hout (.func f) rfl
        clear hdep hout
        refine .inr ⟨?_, rfl⟩
        show (y 13 == some true) = false
        rw [yg]; rfl
      rcases i with _ | i
      · obtain rfl := Option.some.inj ho
        have e19 : ρ (.tmp 64) = undef := (hdep ⟨19, .data⟩ (by simp) rfl).1 64 rfl
        have yg : y 13 = some false := (hdep ⟨13, .guard⟩ (by simp) rfl).2 58 rfl
        have ocn : ∀ v, ρ (.const v) = v := fun v => hout (.const v) rfl
        have ofn : ∀ f, ρ (.func f) = .func (.func f) #[] #[] := fun f => hout (.func f) rfl
        clear hdep hout
        refine .inr ⟨?_, rfl⟩
        show (y 13 == some true) = false
        rw [yg]; rfl
      rcases i with _ | i
      · obtain rfl := Option.some.inj ho
        have e18 : ρ (.tmp 63) = undef := (hdep ⟨18, .data⟩ (by simp) rfl).1 63 rfl
        have e20 : ρ (.tmp 65) = undef := (hdep ⟨20, .data⟩ (by simp) rfl).1 65 rfl
        have yg : y 13 = some false := (hdep ⟨13, .guard⟩ (by simp) rfl).2 58 rfl
        have ocn : ∀ v, ρ (.const v) = v := fun v => hout (.const v) rfl
        have ofn : ∀ f, ρ (.func f) = .func (.func f) #[] #[] := fun f => hout (.func f) rfl
        clear hdep hout
        refine .inr ⟨?_, rfl⟩
        show (y 13 == some true) = false
        rw [yg]; rfl
      rcases i with _ | i
      · obtain rfl := Option.some.inj ho
        have e21 : ρ (.tmp 66) = undef := (hdep ⟨21, .data⟩ (by simp) rfl).1 66 rfl
        have yg : y 13 = some false := (hdep ⟨13, .guard⟩ (by simp) rfl).2 58 rfl
        have ocn : ∀ v, ρ (.const v) = v := fun v => hout (.const v) rfl
        have ofn : ∀ f, ρ (.func f) = .func (.func f) #[] #[] := fun f => hout (.func f) rfl
        clear hdep hout
        refine .inr ⟨?_, rfl⟩
        show (y 13 == some true) = false
        rw [yg]; rfl
      rcases i with _ | i
      · obtain rfl := Option.some.inj ho
        have e22 : ρ (.tmp 67) = undef := (hdep ⟨22, .data⟩ (by simp) rfl).1 67 rfl
        have yg : y 13 = some false := (hdep ⟨13, .guard⟩ (by simp) rfl).2 58 rfl
        have ocn : ∀ v, ρ (.const v) = v := fun v => hout (.const v) rfl
        have ofn : ∀ f, ρ (.func f) = .func (.func f) #[] #[] := fun f => hout (.func f) rfl
        clear hdep hout
        refine .inr ⟨?_, rfl⟩
        show (y 13 == some true) = false
        rw [yg]; rfl
      rcases i with _ | i
      · obtain rfl := Option.some.inj ho
        have e16 : ρ (.tmp 61) = undef := (hdep ⟨16, .data⟩ (by simp) rfl).1 61 rfl
        have e23 : ρ (.tmp 68) = undef := (hdep ⟨23, .data⟩ (by simp) rfl).1 68 rfl
        have yg : y 13 = some false := (hdep ⟨13, .guard⟩ (by simp) rfl).2 58 rfl
        have ocn : ∀ v, ρ (.const v) = v := fun v => hout (.const v) rfl
        have ofn : ∀ f, ρ (.func f) = .func (.func f) #[] #[] := fun f => hout (.func f) rfl
        clear hdep hout
        refine .inr ⟨?_, rfl⟩
        show (y 13 == some true) = false
        rw [yg]; rfl
      rcases i with _ | i
      · obtain rfl := Option.some.inj ho
        have e13 : ρ (.tmp 58) = .bool false := (hdep ⟨13, .data⟩ (by simp) rfl).1 58 rfl
        have e24 : ρ (.tmp 69) = undef := (hdep ⟨24, .data⟩ (by simp) rfl).1 69 rfl
        have ocn : ∀ v, ρ (.const v) = v := fun v => hout (.const v) rfl
        have ofn : ∀ f, ρ (.func f) = .func (.func f) #[] #[] := fun f => hout (.func f) rfl
        clear hdep hout
        refine .inl ⟨?_, ?_⟩
        · rfl
        show Gives _ _ _ (.bool false) _
        refine Gives.val ?_
        go_simp
      rcases i with _ | i
      · obtain rfl := Option.some.inj ho
        have e25 : ρ (.tmp 70) = .bool false := (hdep ⟨25, .data⟩ (by simp) rfl).1 70 rfl
        have ocn : ∀ v, ρ (.const v) = v := fun v => hout (.const v) rfl
        have ofn : ∀ f, ρ (.func f) = .func (.func f) #[] #[] := fun f => hout (.func f) rfl
        clear hdep hout
        refine .inl ⟨?_, ?_⟩
        · rfl
        show Gives _ _ _ (.bool false) _
        refine Gives.val ?_
        go_simp
      rcases i with _ | i
      · obtain rfl := Option.some.inj ho
        have o3 : ρ (.tmp 3) = .pointer (some ⟨x0.heap.size, 0, none⟩) := hout (.tmp 3) rfl
        have yg : y 26 = some false := (hdep ⟨26, .guard⟩ (by simp) rfl).2 71 rfl
        have ocn : ∀ v, ρ (.const v) = v := fun v => hout (.const v) rfl
        have ofn : ∀ f, ρ (.func f) = .func (.func f) #[] #[] := fun f => hout (.func f) rfl
        clear hdep hout
        refine .inr ⟨?_, rfl⟩
        show (y 26 == some true) = false
        rw [yg]; rfl
      rcases i with _ | i
      · obtain rfl := Option.some.inj ho
        have e27 : ρ (.tmp 72) = undef := (hdep ⟨27, .data⟩ (by simp) rfl).1 72 rfl
        have yg : y 26 = some false := (hdep ⟨26, .guard⟩ (by simp) rfl).2 71 rfl
        have ocn : ∀ v, ρ (.const v) = v := fun v => hout (.const v) rfl
        have ofn : ∀ f, ρ (.func f) = .func (.func f) #[] #[] := fun f => hout (.func f) rfl
        clear hdep hout
        refine .inr ⟨?_, rfl⟩
        show (y 26 == some true) = false
        rw [yg]; rfl
      rcases i with _ | i
      · obtain rfl := Option.some.inj ho
        have e28 : ρ (.tmp 73) = undef := (hdep ⟨28, .data⟩ (by simp) rfl).1 73 rfl
        have yg : y 26 = some false := (hdep ⟨26, .guard⟩ (by simp) rfl).2 71 rfl
        have ocn : ∀ v, ρ (.const v) = v := fun v => hout (.const v) rfl
        have ofn : ∀ f, ρ (.func f) = .func (.func f) #[] #[] := fun f => hout (.func f) rfl
        clear hdep hout
        refine .inr ⟨?_, rfl⟩
        show (y 26 == some true) = false
        rw [yg]; rfl
      rcases i with _ | i
      · obtain rfl := Option.some.inj ho
        have o3 : ρ (.tmp 3) = .pointer (some ⟨x0.heap.size, 0, none⟩) := hout (.tmp 3) rfl
        have yg : y 26 = some false := (hdep ⟨26, .guard⟩ (by simp) rfl).2 71 rfl
        have ocn : ∀ v, ρ (.const v) = v := fun v => hout (.const v) rfl
        have ofn : ∀ f, ρ (.func f) = .func (.func f) #[] #[] := fun f => hout (.func f) rfl
        clear hdep hout
        refine .inr ⟨?_, rfl⟩
        show (y 26 == some true) = false
        rw [yg]; rfl
      rcases i with _ | i
      · obtain rfl := Option.some.inj ho
        have e30 : ρ (.tmp 75) = undef := (hdep ⟨30, .data⟩ (by simp) rfl).1 75 rfl
        have yg : y 26 = some false := (hdep ⟨26, .guard⟩ (by simp) rfl).2 71 rfl
        have ocn : ∀ v, ρ (.const v) = v := fun v => hout (.const v) rfl
        have ofn : ∀ f, ρ (.func f) = .func (.func f) #[] #[] := fun f => hout (.func f) rfl
        clear hdep hout
        refine .inr ⟨?_, rfl⟩
        show (y 26 == some true) = false
        rw [yg]; rfl
      rcases i with _ | i
      · obtain rfl := Option.some.inj ho
        have o5 : ρ (.tmp 5) = .int .i64 0 := hout (.tmp 5) rfl
        have yg : y 26 = some false := (hdep ⟨26, .guard⟩ (by simp) rfl).2 71 rfl
        have ocn : ∀ v, ρ (.const v) = v := fun v => hout (.const v) rfl
        have ofn : ∀ f, ρ (.func f) = .func (.func f) #[] #[] := fun f => hout (.func f) rfl
        clear hdep hout
        refine .inr ⟨?_, rfl⟩
        show (y 26 == some true) = false
        rw [yg]; rfl
      rcases i with _ | i
      · obtain rfl := Option.some.inj ho
        have e32 : ρ (.tmp 77) = undef := (hdep ⟨32, .data⟩ (by simp) rfl).1 77 rfl
        have yg : y 26 = some false := (hdep ⟨26, .guard⟩ (by simp) rfl).2 71 rfl
        have ocn : ∀ v, ρ (.const v) = v := fun v => hout (.const v) rfl
        have ofn : ∀ f, ρ (.func f) = .func (.func f) #[] #[] := fun f => hout (.func f) rfl
        clear hdep hout
        refine .inr ⟨?_, rfl⟩
        show (y 26 == some true) = false
        rw [yg]; rfl
      rcases i with _ | i
      · obtain rfl := Option.some.inj ho
        have e31 : ρ (.tmp 76) = undef := (hdep ⟨31, .data⟩ (by simp) rfl).1 76 rfl
        have e33 : ρ (.tmp 78) = undef := (hdep ⟨33, .data⟩ (by simp) rfl).1 78 rfl
        have yg : y 26 = some false := (hdep ⟨26, .guard⟩ (by simp) rfl).2 71 rfl
        have ocn : ∀ v, ρ (.const v) = v := fun v => hout (.const v) rfl
        have ofn : ∀ f, ρ (.func f) = .func (.func f) #[] #[] := fun f => hout (.func f) rfl
        clear hdep hout
        refine .inr ⟨?_, rfl⟩
        show (y 26 == some true) = false
        rw [yg]; rfl
      rcases i with _ | i
      · obtain rfl := Option.some.inj ho
        have e34 : ρ (.tmp 79) = undef := (hdep ⟨34, .data⟩ (by simp) rfl).1 79 rfl
        have yg : y 26 = some false := (hdep ⟨26, .guard⟩ (by simp) rfl).2 71 rfl
        have ocn : ∀ v, ρ (.const v) = v := fun v => hout (.const v) rfl
        have ofn : ∀ f, ρ (.func f) = .func (.func f) #[] #[] := fun f => hout (.func f) rfl
        clear hdep hout
        refine .inr ⟨?_, rfl⟩
        show (y 26 == some true) = false
        rw [yg]; rfl
      rcases i with _ | i
      · obtain rfl := Option.some.inj ho
        have e35 : ρ (.tmp 80) = undef := (hdep ⟨35, .data⟩ (by simp) rfl).1 80 rfl
        have yg : y 26 = some false := (hdep ⟨26, .guard⟩ (by simp) rfl).2 71 rfl
        have ocn : ∀ v, ρ (.const v) = v := fun v => hout (.const v) rfl
        have ofn : ∀ f, ρ (.func f) = .func (.func f) #[] #[] := fun f => hout (.func f) rfl
        clear hdep hout
        refine .inr ⟨?_, rfl⟩
        show (y 26 == some true) = false
        rw [yg]; rfl
      rcases i with _ | i
      · obtain rfl := Option.some.inj ho
        have e29 : ρ (.tmp 74) = undef := (hdep ⟨29, .data⟩ (by simp) rfl).1 74 rfl
        have e36 : ρ (.tmp 81) = undef := (hdep ⟨36, .data⟩ (by simp) rfl).1 81 rfl
        have yg : y 26 = some false := (hdep ⟨26, .guard⟩ (by simp) rfl).2 71 rfl
        have ocn : ∀ v, ρ (.const v) = v := fun v => hout (.const v) rfl
        have ofn : ∀ f, ρ (.func f) = .func (.func f) #[] #[] := fun f => hout (.func f) rfl
        clear hdep hout
        refine .inr ⟨?_, rfl⟩
        show (y 26 == some true) = false
        rw [yg]; rfl
      rcases i with _ | i
      · obtain rfl := Option.some.inj ho
        have e26 : ρ (.tmp 71) = .bool false := (hdep ⟨26, .data⟩ (by simp) rfl).1 71 rfl
        have e37 : ρ (.tmp 82) = undef := (hdep ⟨37, .data⟩ (by simp) rfl).1 82 rfl
        have ocn : ∀ v, ρ (.const v) = v := fun v => hout (.const v) rfl
        have ofn : ∀ f, ρ (.func f) = .func (.func f) #[] #[] := fun f => hout (.func f) rfl
        clear hdep hout
        refine .inl ⟨?_, ?_⟩
        · rfl
        show Gives _ _ _ (.bool false) _
        refine Gives.val ?_
        go_simp
      rcases i with _ | i
      · obtain rfl := Option.some.inj ho
        have e38 : ρ (.tmp 83) = .bool false := (hdep ⟨38, .data⟩ (by simp) rfl).1 83 rfl
        have ocn : ∀ v, ρ (.const v) = v := fun v => hout (.const v) rfl
        have ofn : ∀ f, ρ (.func f) = .func (.func f) #[] #[] := fun f => hout (.func f) rfl
        clear hdep hout
        refine .inl ⟨?_, ?_⟩
        · rfl
        show Gives _ _ _ (.bool false) _
        refine Gives.val ?_
        go_simp
      cases ho
    case fin =>
      intro x hBx
      have hBf := HAl.out.trans (hBx.mono HAl.out.size)
      go_wp2_with fail
      go_ret
      exact ⟨retBool (by have hfl := HFN.out.1; first | (simp [endF, noSite, HFN.out.1]; done) | (simp [endF, noSite, HFN.out.1]; intros; omega) | (simp_all [endF, noSite]; done) | (simp_all [endF, noSite] <;> omega)), hBf⟩
  · by_cases e1 : n2 = 1
    · subst e1
      go_enter Try.func52, Try.ntmps52
      go_wp2_with fail
      refine (l1Word_e n3 _).mono ?_
      rintro e z ⟨rfl, rfl⟩
      cases hw : inI n3 (-16) 15
      all_goals
        go_wp2_with fail
        all_goals
          go_ret
          exact ⟨retBool (by have hfl := HFN.out.1; first | (simp [endF, noSite, HFN.out.1, wdF, hw, *]; done) | (simp [endF, noSite, HFN.out.1, wdF, hw, *]; intros; omega) | (simp_all [endF, noSite]; done) | (simp_all [endF, noSite] <;> omega)), by first | exact ((Below.refl _ _).alloc (Nat.le_refl _) _).alloc (by simp) _ | go_grown⟩
    · go_enter Try.func52, Try.ntmps52
      go_wp2_with fail
      all_goals
        go_ret
        exact ⟨retBool (by have hfl := HFN.out.1; first | (simp [endF, noSite, HFN.out.1, e1, e2, *]; done) | (simp [endF, noSite, HFN.out.1, e1, e2, *]; intros; omega) | (simp_all [endF, noSite]; done) | (simp_all [endF, noSite] <;> omega)), by first | exact ((Below.refl _ _).alloc (Nat.le_refl _) _).alloc (by simp) _ | go_grown⟩

set_option maxRecDepth 100000 in
set_option maxHeartbeats 8000000 in
theorem l3EndOk_G1 (x0 : World) (B : Nat) (v : Value) (P : List (List I4)) (h : ProgAt x0 B v P) (hok : progOkF P = true) (s : Value) (F : List Fr) (hF : FrsAt x0 s F) (hl5 : F.length ≤ 5) (n1 n2 n3 n4 n5 n6 : Int) (hg : 0 < F.length) (ho : ¬ n3 = 0) :
    Calls Try.prog 52 #[v, aggRun s (n1, n2, n3, n4, n5, n6)] x0 fun e y => e = .returned (.bool (endF P F n2 n3 (n4, n5, n6))) ∧ Below x0.heap.size x0 y := by
  obtain ⟨p, cap, rfl, _⟩ := h.shape
  obtain ⟨ps, cs, rfl, _⟩ := hF.shape
  unfold aggRun
  dsimp only
  have H : Hid (ProgAt x0 B (.slice p P.length cap) P) := h
  have HOK : Hid (progOkF P = true) := hok
  have HS : Hid (FrsAt x0 (.slice ps F.length cs) F) := hF
  have hl := progOkF_len hok
  have hn4 : (P.length : Int) ≤ 4 := by omega
  have hf5 : (F.length : Int) ≤ 5 := by omega
  clear h hok hF hl
  have hob : (n3 == 0) = false := by simpa using ho
  generalize hfn : F.length = fn at *
  generalize hpn : P.length = pn at *
  have HFN : Hid (F.length = fn ∧ P.length = pn) := ⟨hfn, hpn⟩
  clear hfn hpn
  have hgi : (0 : Int) < (fn : Int) := by omega
  obtain ⟨m, hm⟩ : ∃ m, fn = m + 1 := ⟨fn - 1, by omega⟩
  have hfm : (fn : Int) - 1 = (m : Int) := by omega
  have hmi : (m : Int) < (fn : Int) := by omega
  have hm4 : (m : Int) ≤ 4 := by omega
  have HM : Hid (fn = m + 1) := hm
  clear hm
  by_cases e2 : n2 = 2
  · subst e2
    have HAl : Hid (Below x0.heap.size x0 ((x0.alloc (.cells #[.slice ps fn cs, .int .i64 n1, .int .i64 2, .int .i64 n3, .int .i64 n4, .int .i64 n5, .int .i64 n6] 56)).alloc (.cells #[.int .i64 0, .int .i64 0, .int .i64 0] 54))) := ((Below.refl _ _).alloc (Nat.le_refl _) _).alloc (by simp) _
    have K00 : Hid (BxN ((x0.alloc (.cells #[.slice ps fn cs, .int .i64 n1, .int .i64 2, .int .i64 n3, .int .i64 n4, .int .i64 n5, .int .i64 n6] 56)).alloc (.cells #[.int .i64 0, .int .i64 0, .int .i64 0] 54)) x0.heap.size [.slice ps fn cs, .int .i64 n1, .int .i64 2, .int .i64 n3, .int .i64 n4, .int .i64 n5, .int .i64 n6]) := (BxN.new x0 [_, _, _, _, _, _, _] _).later ((Below.refl _ _).alloc (Nat.le_refl _) _)
    go_enter Try.func52, Try.ntmps52
    go_wp2_with fail
    generalize (x0.alloc (.cells #[.slice ps fn cs, .int .i64 n1, .int .i64 2, .int .i64 n3, .int .i64 n4, .int .i64 n5, .int .i64 n6] 56)).alloc (.cells #[.int .i64 0, .int .i64 0, .int .i64 0] 54) = X at HAl K00 ⊢
    refine wp_region_vals (by kernel_rfl) (by kernel_rfl) (by kernel_rfl) (by kernel_rfl) (fun j => [.int .i64 ↑fn, .bool true, .bool true, .pointer (some ⟨x0.heap.size, 3, none⟩), .int .i64 n3, .bool false, .bool false, .bool false, undef, undef, undef, undef, .bool false, .bool false, undef, undef, undef, undef, undef, undef, undef, undef, undef, undef, undef, .bool false, .bool false, undef, undef, undef, undef, undef, undef, undef, undef, undef, undef, undef, .bool false, .bool false].getD j undef) X (Below.drew (Below.refl _ _)) ?step ⟨#[.slice p pn cap, .agg #[.slice ps fn cs, .int .i64 n1, .int .i64 2, .int .i64 n3, .int .i64 n4, .int .i64 n5, .int .i64 n6], undef, .pointer (some ⟨x0.heap.size, 0, none⟩), .bool false, .int .i64 ↑fn, .pointer (some ⟨x0.heap.size + 1, 0, none⟩), .pointer (some ⟨x0.heap.size, 0, none⟩), .slice ps fn cs, .int .i64 ↑fn, .agg #[.int .i64 0, .int .i64 0, .int .i64 0], .pointer (some ⟨x0.heap.size, 2, none⟩), .int .i64 2, .bool false, .bool false, undef, undef, undef, undef, undef, undef, undef, undef, undef, undef, undef, undef, undef, .bool false, .bool false, undef, undef, undef, undef, undef, undef, undef, undef, undef, undef, undef, undef, undef, .bool true, .bool true, .int .i64 ↑fn, .bool true, .bool true, .pointer (some ⟨x0.heap.size, 3, none⟩), .int .i64 n3, .bool false, .bool false, .bool false, undef, undef, undef, undef, .bool false, .bool false, undef, undef, undef, undef, undef, undef, undef, undef, undef, undef, undef, .bool false, .bool false, undef, undef, undef, undef, undef, undef, undef, undef, undef, undef, undef, .bool false, undef, undef, undef, undef, undef, undef, undef, undef, undef, undef, undef, undef, undef, undef, undef], []⟩ (by kernel_rfl) ?fin
    case step =>
      intro i o ho ρ y x hBx hdep hout
      rcases i with _ | i
      · obtain rfl := Option.some.inj ho
        have o5 : ρ (.tmp 5) = .int .i64 ↑fn := hout (.tmp 5) rfl
        have ocn : ∀ v, ρ (.const v) = v := fun v => hout (.const v) rfl
        have ofn : ∀ f, ρ (.func f) = .func (.func f) #[] #[] := fun f => hout (.func f) rfl
        clear hdep hout
        refine .inl ⟨?_, ?_⟩
        · rfl
        show Gives _ _ _ (.int .i64 ↑fn) _
        refine Gives.val ?_
        go_simp
      rcases i with _ | i
      · obtain rfl := Option.some.inj ho
        have e0 : ρ (.tmp 45) = .int .i64 ↑fn := (hdep ⟨0, .data⟩ (by simp) rfl).1 45 rfl
        have ocn : ∀ v, ρ (.const v) = v := fun v => hout (.const v) rfl
        have ofn : ∀ f, ρ (.func f) = .func (.func f) #[] #[] := fun f => hout (.func f) rfl
        clear hdep hout
        refine .inl ⟨?_, ?_⟩
        · rfl
        show Gives _ _ _ (.bool true) _
        refine Gives.val ?_
        go_simp
      rcases i with _ | i
      · obtain rfl := Option.some.inj ho
        have e1 : ρ (.tmp 46) = .bool true := (hdep ⟨1, .data⟩ (by simp) rfl).1 46 rfl
        have ocn : ∀ v, ρ (.const v) = v := fun v => hout (.const v) rfl
        have ofn : ∀ f, ρ (.func f) = .func (.func f) #[] #[] := fun f => hout (.func f) rfl
        clear hdep hout
        refine .inl ⟨?_, ?_⟩
        · rfl
        show Gives _ _ _ (.bool true) _
        refine Gives.val ?_
        go_simp
      rcases i with _ | i
      · obtain rfl := Option.some.inj ho
        have o3 : ρ (.tmp 3) = .pointer (some ⟨x0.heap.size, 0, none⟩) := hout (.tmp 3) rfl
        have yg : y 2 = some true := (hdep ⟨2, .guard⟩ (by simp) rfl).2 47 rfl
        have ocn : ∀ v, ρ (.const v) = v := fun v => hout (.const v) rfl
        have ofn : ∀ f, ρ (.func f) = .func (.func f) #[] #[] := fun f => hout (.func f) rfl
        clear hdep hout
        refine .inl ⟨?_, ?_⟩
        · show (y 2 == some true) = true
          rw [yg]; rfl
        show Gives _ _ _ (.pointer (some ⟨x0.heap.size, 3, none⟩)) _
        refine Gives.val ?_
        go_simp
      rcases i with _ | i
      · obtain rfl := Option.some.inj ho
        have e3 : ρ (.tmp 48) = .pointer (some ⟨x0.heap.size, 3, none⟩) := (hdep ⟨3, .data⟩ (by simp) rfl).1 48 rfl
        have yg : y 2 = some true := (hdep ⟨2, .guard⟩ (by simp) rfl).2 47 rfl
        have ocn : ∀ v, ρ (.const v) = v := fun v => hout (.const v) rfl
        have ofn : ∀ f, ρ (.func f) = .func (.func f) #[] #[] := fun f => hout (.func f) rfl
        clear hdep hout
        refine .inl ⟨?_, ?_⟩
        · show (y 2 == some true) = true
          rw [yg]; rfl
        have kb := K00.out.later hBx
        have c0 := kb.c 0 _ rfl
        have c3 := kb.c 3 _ rfl
        have c4 := kb.c 4 _ rfl
        have c5 := kb.c 5 _ rfl
        have c6 := kb.c 6 _ rfl
        have cl0 := kb.lt
        show Gives _ _ _ (.int .i64 n3) _
        refine Gives.val ?_
        go_simp
      rcases i with _ | i
      · obtain rfl := Option.some.inj ho
        have e4 : ρ (.tmp 49) = .int .i64 n3 := (hdep ⟨4, .data⟩ (by simp) rfl).1 49 rfl
        have yg : y 2 = some true := (hdep ⟨2, .guard⟩ (by simp) rfl).2 47 rfl
        have ocn : ∀ v, ρ (.const v) = v := fun v => hout (.const v) rfl
        have ofn : ∀ f, ρ (.func f) = .func (.func f) #[] #[] := fun f => hout (.func f) rfl
        clear hdep hout
        refine .inl ⟨?_, ?_⟩
        · show (y 2 == some true) = true
          rw [yg]; rfl
        show Gives _ _ _ (.bool false) _
        refine Gives.val ?_
        go_simp
      rcases i with _ | i
      · obtain rfl := Option.some.inj ho
        have e2 : ρ (.tmp 47) = .bool true := (hdep ⟨2, .data⟩ (by simp) rfl).1 47 rfl
        have e5 : ρ (.tmp 50) = .bool false := (hdep ⟨5, .data⟩ (by simp) rfl).1 50 rfl
        have ocn : ∀ v, ρ (.const v) = v := fun v => hout (.const v) rfl
        have ofn : ∀ f, ρ (.func f) = .func (.func f) #[] #[] := fun f => hout (.func f) rfl
        clear hdep hout
        refine .inl ⟨?_, ?_⟩
        · rfl
        show Gives _ _ _ (.bool false) _
        refine Gives.val ?_
        go_simp
      rcases i with _ | i
      · obtain rfl := Option.some.inj ho
        have e6 : ρ (.tmp 51) = .bool false := (hdep ⟨6, .data⟩ (by simp) rfl).1 51 rfl
        have ocn : ∀ v, ρ (.const v) = v := fun v => hout (.const v) rfl
        have ofn : ∀ f, ρ (.func f) = .func (.func f) #[] #[] := fun f => hout (.func f) rfl
        clear hdep hout
        refine .inl ⟨?_, ?_⟩
        · rfl
        show Gives _ _ _ (.bool false) _
        refine Gives.val ?_
        go_simp
      rcases i with _ | i
      · obtain rfl := Option.some.inj ho
        have o0 : ρ (.tmp 0) = .slice p pn cap := hout (.tmp 0) rfl
        have yg : y 7 = some false := (hdep ⟨7, .guard⟩ (by simp) rfl).2 52 rfl
        have ocn : ∀ v, ρ (.const v) = v := fun v => hout (.const v) rfl
        have ofn : ∀ f, ρ (.func f) = .func (.func f) #[] #[] := fun f => hout (.func f) rfl
        clear hdep hout
        refine .inr ⟨?_, rfl⟩
        show (y 7 == some true) = false
        rw [yg]; rfl
      rcases i with _ | i
      · obtain rfl := Option.some.inj ho
        have o3 : ρ (.tmp 3) = .pointer (some ⟨x0.heap.size, 0, none⟩) := hout (.tmp 3) rfl
        have yg : y 7 = some false := (hdep ⟨7, .guard⟩ (by simp) rfl).2 52 rfl
        have ocn : ∀ v, ρ (.const v) = v := fun v => hout (.const v) rfl
        have ofn : ∀ f, ρ (.func f) = .func (.func f) #[] #[] := fun f => hout (.func f) rfl
        clear hdep hout
        refine .inr ⟨?_, rfl⟩
        show (y 7 == some true) = false
        rw [yg]; rfl
      rcases i with _ | i
      · obtain rfl := Option.some.inj ho
        have e9 : ρ (.tmp 54) = undef := (hdep ⟨9, .data⟩ (by simp) rfl).1 54 rfl
        have yg : y 7 = some false := (hdep ⟨7, .guard⟩ (by simp) rfl).2 52 rfl
        have ocn : ∀ v, ρ (.const v) = v := fun v => hout (.const v) rfl
        have ofn : ∀ f, ρ (.func f) = .func (.func f) #[] #[] := fun f => hout (.func f) rfl
        clear hdep hout
        refine .inr ⟨?_, rfl⟩
        show (y 7 == some true) = false
        rw [yg]; rfl
      rcases i with _ | i
      · obtain rfl := Option.some.inj ho
        have e8 : ρ (.tmp 53) = undef := (hdep ⟨8, .data⟩ (by simp) rfl).1 53 rfl
        have e10 : ρ (.tmp 55) = undef := (hdep ⟨10, .data⟩ (by simp) rfl).1 55 rfl
        have yg : y 7 = some false := (hdep ⟨7, .guard⟩ (by simp) rfl).2 52 rfl
        have ocn : ∀ v, ρ (.const v) = v := fun v => hout (.const v) rfl
        have ofn : ∀ f, ρ (.func f) = .func (.func f) #[] #[] := fun f => hout (.func f) rfl
        clear hdep hout
        refine .inr ⟨?_, rfl⟩
        show (y 7 == some true) = false
        rw [yg]; rfl
      rcases i with _ | i
      · obtain rfl := Option.some.inj ho
        have e7 : ρ (.tmp 52) = .bool false := (hdep ⟨7, .data⟩ (by simp) rfl).1 52 rfl
        have e11 : ρ (.tmp 56) = undef := (hdep ⟨11, .data⟩ (by simp) rfl).1 56 rfl
        have ocn : ∀ v, ρ (.const v) = v := fun v => hout (.const v) rfl
        have ofn : ∀ f, ρ (.func f) = .func (.func f) #[] #[] := fun f => hout (.func f) rfl
        clear hdep hout
        refine .inl ⟨?_, ?_⟩
        · rfl
        show Gives _ _ _ (.bool false) _
        refine Gives.val ?_
        go_simp
      rcases i with _ | i
      · obtain rfl := Option.some.inj ho
        have e12 : ρ (.tmp 57) = .bool false := (hdep ⟨12, .data⟩ (by simp) rfl).1 57 rfl
        have ocn : ∀ v, ρ (.const v) = v := fun v => hout (.const v) rfl
        have ofn : ∀ f, ρ (.func f) = .func (.func f) #[] #[] := fun f => hout (.func f) rfl
        clear hdep hout
        refine .inl ⟨?_, ?_⟩
        · rfl
        show Gives _ _ _ (.bool false) _
        refine Gives.val ?_
        go_simp
      rcases i with _ | i
      · obtain rfl := Option.some.inj ho
        have o3 : ρ (.tmp 3) = .pointer (some ⟨x0.heap.size, 0, none⟩) := hout (.tmp 3) rfl
        have yg : y 13 = some false := (hdep ⟨13, .guard⟩ (by simp) rfl).2 58 rfl
        have ocn : ∀ v, ρ (.const v) = v := fun v => hout (.const v) rfl
        have ofn : ∀ f, ρ (.func f) = .func (.func f) #[] #[] := fun f => hout (.func f) rfl
        clear hdep hout
        refine .inr ⟨?_, rfl⟩
        show (y 13 == some true) = false
        rw [yg]; rfl
      rcases i with _ | i
      · obtain rfl := Option.some.inj ho
        have e14 : ρ (.tmp 59) = undef := (hdep ⟨14, .data⟩ (by simp) rfl).1 59 rfl
        have yg : y 13 = some false := (hdep ⟨13, .guard⟩ (by simp) rfl).2 58 rfl
        have ocn : ∀ v, ρ (.const v) = v := fun v => hout (.const v) rfl
        have ofn : ∀ f, ρ (.func f) = .func (.func f) #[] #[] := fun f => hout (.func f) rfl
        clear hdep hout
        refine .inr ⟨?_, rfl⟩
        show (y 13 == some true) = false
        rw [yg]; rfl
      rcases i with _ | i
      · obtain rfl := Option.some.inj ho
        have e15 : ρ (.tmp 60) = undef := (hdep ⟨15, .data⟩ (by simp) rfl).1 60 rfl
        have yg : y 13 = some false := (hdep ⟨13, .guard⟩ (by simp) rfl).2 58 rfl
        have ocn : ∀ v, ρ (.const v) = v := fun v => hout (.const v) rfl
        have ofn : ∀ f, ρ (.func f) = .func (.func f) #[] #[] := fun f => hout (.func f) rfl
        clear hdep hout
        refine .inr ⟨?_, rfl⟩
        show (y 13 == some true) = false
        rw [yg]; rfl
      rcases i with _ | i
      · obtain rfl := Option.some.inj ho
        have o3 : ρ (.tmp 3) = .pointer (some ⟨x0.heap.size, 0, none⟩) := hout (.tmp 3) rfl
        have yg : y 13 = some false := (hdep ⟨13, .guard⟩ (by simp) rfl).2 58 rfl
        have ocn : ∀ v, ρ (.const v) = v := fun v => hout (.const v) rfl
        have ofn : ∀ f, ρ (.func f) = .func (.func f) #[] #[] := fun f => hout (.func f) rfl
        clear hdep hout
        refine .inr ⟨?_, rfl⟩
        show (y 13 == some true) = false
        rw [yg]; rfl
      rcases i with _ | i
      · obtain rfl := Option.some.inj ho
        have e17 : ρ (.tmp 62) = undef := (hdep ⟨17, .data⟩ (by simp) rfl).1 62 rfl
        have yg : y 13 = some false := (hdep ⟨13, .guard⟩ (by simp) rfl).2 58 rfl
        have ocn : ∀ v, ρ (.const v) = v := fun v => hout (.const v) rfl
        have ofn : ∀ f, ρ (.func f) = .func (.func f) #[] #[] := fun f => hout (.func f) rfl
        clear hdep hout
        refine .inr ⟨?_, rfl⟩
        show (y 13 == some true) = false
        rw [yg]; rfl
      rcases i with _ | i
      · obtain rfl := Option.some.inj ho
        have o5 : ρ (.tmp 5) = .int .i64 ↑fn := hout (.tmp 5) rfl
        have yg : y 13 = some false := (hdep ⟨13, .guard⟩ (by simp) rfl).2 58 rfl
        have ocn : ∀ v, ρ (.const v) = v := fun v => hout (.const v) rfl
        have ofn : ∀ f, ρ (.func f) = .func (.func f) #[] #[] := fun f => hout (.func f) rfl
        clear hdep hout
        refine .inr ⟨?_, rfl⟩
        show (y 13 == some true) = false
        rw [yg]; rfl
      rcases i with _ | i
      · obtain rfl := Option.some.inj ho
        have e19 : ρ (.tmp 64) = undef := (hdep ⟨19, .data⟩ (by simp) rfl).1 64 rfl
        have yg : y 13 = some false := (hdep ⟨13, .guard⟩ (by simp) rfl).2 58 rfl
        have ocn : ∀ v, ρ (.const v) = v := fun v => hout (.const v) rfl
        have ofn : ∀ f, ρ (.func f) = .func (.func f) #[] #[] := fun f => hout (.func f) rfl
        clear hdep hout
        refine .inr ⟨?_, rfl⟩
        show (y 13 == some true) = false
        rw [yg]; rfl
      rcases i with _ | i
      · obtain rfl := Option.some.inj ho
        have e18 : ρ (.tmp 63) = undef := (hdep ⟨18, .data⟩ (by simp) rfl).1 63 rfl
        have e20 : ρ (.tmp 65) = undef := (hdep ⟨20, .data⟩ (by simp) rfl).1 65 rfl
        have yg : y 13 = some false := (hdep ⟨13, .guard⟩ (by simp) rfl).2 58 rfl
        have ocn : ∀ v, ρ (.const v) = v := fun v => hout (.const v) rfl
        have ofn : ∀ f, ρ (.func f) = .func (.func f) #[] #[] := fun f => hout (.func f) rfl
        clear hdep hout
        refine .inr ⟨?_, rfl⟩
        show (y 13 == some true) = false
        rw [yg]; rfl
      rcases i with _ | i
      · obtain rfl := Option.some.inj ho
        have e21 : ρ (.tmp 66) = undef := (hdep ⟨21, .data⟩ (by simp) rfl).1 66 rfl
        have yg : y 13 = some false := (hdep ⟨13, .guard⟩ (by simp) rfl).2 58 rfl
        have ocn : ∀ v, ρ (.const v) = v := fun v => hout (.const v) rfl
        have ofn : ∀ f, ρ (.func f) = .func (.func f) #[] #[] := fun f => hout (.func f) rfl
        clear hdep hout
        refine .inr ⟨?_, rfl⟩
        show (y 13 == some true) = false
        rw [yg]; rfl
      rcases i with _ | i
      · obtain rfl := Option.some.inj ho
        have e22 : ρ (.tmp 67) = undef := (hdep ⟨22, .data⟩ (by simp) rfl).1 67 rfl
        have yg : y 13 = some false := (hdep ⟨13, .guard⟩ (by simp) rfl).2 58 rfl
        have ocn : ∀ v, ρ (.const v) = v := fun v => hout (.const v) rfl
        have ofn : ∀ f, ρ (.func f) = .func (.func f) #[] #[] := fun f => hout (.func f) rfl
        clear hdep hout
        refine .inr ⟨?_, rfl⟩
        show (y 13 == some true) = false
        rw [yg]; rfl
      rcases i with _ | i
      · obtain rfl := Option.some.inj ho
        have e16 : ρ (.tmp 61) = undef := (hdep ⟨16, .data⟩ (by simp) rfl).1 61 rfl
        have e23 : ρ (.tmp 68) = undef := (hdep ⟨23, .data⟩ (by simp) rfl).1 68 rfl
        have yg : y 13 = some false := (hdep ⟨13, .guard⟩ (by simp) rfl).2 58 rfl
        have ocn : ∀ v, ρ (.const v) = v := fun v => hout (.const v) rfl
        have ofn : ∀ f, ρ (.func f) = .func (.func f) #[] #[] := fun f => hout (.func f) rfl
        clear hdep hout
        refine .inr ⟨?_, rfl⟩
        show (y 13 == some true) = false
        rw [yg]; rfl
      rcases i with _ | i
      · obtain rfl := Option.some.inj ho
        have e13 : ρ (.tmp 58) = .bool false := (hdep ⟨13, .data⟩ (by simp) rfl).1 58 rfl
        have e24 : ρ (.tmp 69) = undef := (hdep ⟨24, .data⟩ (by simp) rfl).1 69 rfl
        have ocn : ∀ v, ρ (.const v) = v := fun v => hout (.const v) rfl
        have ofn : ∀ f, ρ (.func f) = .func (.func f) #[] #[] := fun f => hout (.func f) rfl
        clear hdep hout
        refine .inl ⟨?_, ?_⟩
        · rfl
        show Gives _ _ _ (.bool false) _
        refine Gives.val ?_
        go_simp
      rcases i with _ | i
      · obtain rfl := Option.some.inj ho
        have e25 : ρ (.tmp 70) = .bool false := (hdep ⟨25, .data⟩ (by simp) rfl).1 70 rfl
        have ocn : ∀ v, ρ (.const v) = v := fun v => hout (.const v) rfl
        have ofn : ∀ f, ρ (.func f) = .func (.func f) #[] #[] := fun f => hout (.func f) rfl
        clear hdep hout
        refine .inl ⟨?_, ?_⟩
        · rfl
        show Gives _ _ _ (.bool false) _
        refine Gives.val ?_
        go_simp
      rcases i with _ | i
      · obtain rfl := Option.some.inj ho
        have o3 : ρ (.tmp 3) = .pointer (some ⟨x0.heap.size, 0, none⟩) := hout (.tmp 3) rfl
        have yg : y 26 = some false := (hdep ⟨26, .guard⟩ (by simp) rfl).2 71 rfl
        have ocn : ∀ v, ρ (.const v) = v := fun v => hout (.const v) rfl
        have ofn : ∀ f, ρ (.func f) = .func (.func f) #[] #[] := fun f => hout (.func f) rfl
        clear hdep hout
        refine .inr ⟨?_, rfl⟩
        show (y 26 == some true) = false
        rw [yg]; rfl
      rcases i with _ | i
      · obtain rfl := Option.some.inj ho
        have e27 : ρ (.tmp 72) = undef := (hdep ⟨27, .data⟩ (by simp) rfl).1 72 rfl
        have yg : y 26 = some false := (hdep ⟨26, .guard⟩ (by simp) rfl).2 71 rfl
        have ocn : ∀ v, ρ (.const v) = v := fun v => hout (.const v) rfl
        have ofn : ∀ f, ρ (.func f) = .func (.func f) #[] #[] := fun f => hout (.func f) rfl
        clear hdep hout
        refine .inr ⟨?_, rfl⟩
        show (y 26 == some true) = false
        rw [yg]; rfl
      rcases i with _ | i
      · obtain rfl := Option.some.inj ho
        have e28 : ρ (.tmp 73) = undef := (hdep ⟨28, .data⟩ (by simp) rfl).1 73 rfl
        have yg : y 26 = some false := (hdep ⟨26, .guard⟩ (by simp) rfl).2 71 rfl
        have ocn : ∀ v, ρ (.const v) = v := fun v => hout (.const v) rfl
        have ofn : ∀ f, ρ (.func f) = .func (.func f) #[] #[] := fun f => hout (.func f) rfl
        clear hdep hout
        refine .inr ⟨?_, rfl⟩
        show (y 26 == some true) = false
        rw [yg]; rfl
      rcases i with _ | i
      · obtain rfl := Option.some.inj ho
        have o3 : ρ (.tmp 3) = .pointer (some ⟨x0.heap.size, 0, none⟩) := hout (.tmp 3) rfl
        have yg : y 26 = some false := (hdep ⟨26, .guard⟩ (by simp) rfl).2 71 rfl
        have ocn : ∀ v, ρ (.const v) = v := fun v => hout (.const v) rfl
        have ofn : ∀ f, ρ (.func f) = .func (.func f) #[] #[] := fun f => hout (.func f) rfl
        clear hdep hout
        refine .inr ⟨?_, rfl⟩
        show (y 26 == some true) = false
        rw [yg]; rfl
      rcases i with _ | i
      · obtain rfl := Option.some.inj ho
        have e30 : ρ (.tmp 75) = undef := (hdep ⟨30, .data⟩ (by simp) rfl).1 75 rfl
        have yg : y 26 = some false := (hdep ⟨26, .guard⟩ (by simp) rfl).2 71 rfl
        have ocn : ∀ v, ρ (.const v) = v := fun v => hout (.const v) rfl
        have ofn : ∀ f, ρ (.func f) = .func (.func f) #[] #[] := fun f => hout (.func f) rfl
        clear hdep hout
        refine .inr ⟨?_, rfl⟩
        show (y 26 == some true) = false
        rw [yg]; rfl
      rcases i with _ | i
      · obtain rfl := Option.some.inj ho
        have o5 : ρ (.tmp 5) = .int .i64 ↑fn := hout (.tmp 5) rfl
        have yg : y 26 = some false := (hdep ⟨26, .guard⟩ (by simp) rfl).2 71 rfl
        have ocn : ∀ v, ρ (.const v) = v := fun v => hout (.const v) rfl
        have ofn : ∀ f, ρ (.func f) = .func (.func f) #[] #[] := fun f => hout (.func f) rfl
        clear hdep hout
        refine .inr ⟨?_, rfl⟩
        show (y 26 == some true) = false
        rw [yg]; rfl
      rcases i with _ | i
      · obtain rfl := Option.some.inj ho
        have e32 : ρ (.tmp 77) = undef := (hdep ⟨32, .data⟩ (by simp) rfl).1 77 rfl
        have yg : y 26 = some false := (hdep ⟨26, .guard⟩ (by simp) rfl).2 71 rfl
        have ocn : ∀ v, ρ (.const v) = v := fun v => hout (.const v) rfl
        have ofn : ∀ f, ρ (.func f) = .func (.func f) #[] #[] := fun f => hout (.func f) rfl
        clear hdep hout
        refine .inr ⟨?_, rfl⟩
        show (y 26 == some true) = false
        rw [yg]; rfl
      rcases i with _ | i
      · obtain rfl := Option.some.inj ho
        have e31 : ρ (.tmp 76) = undef := (hdep ⟨31, .data⟩ (by simp) rfl).1 76 rfl
        have e33 : ρ (.tmp 78) = undef := (hdep ⟨33, .data⟩ (by simp) rfl).1 78 rfl
        have yg : y 26 = some false := (hdep ⟨26, .guard⟩ (by simp) rfl).2 71 rfl
        have ocn : ∀ v, ρ (.const v) = v := fun v => hout (.const v) rfl
        have ofn : ∀ f, ρ (.func f) = .func (.func f) #[] #[] := fun f => hout (.func f) rfl
        clear hdep hout
        refine .inr ⟨?_, rfl⟩
        show (y 26 == some true) = false
        rw [yg]; rfl
      rcases i with _ | i
      · obtain rfl := Option.some.inj ho
        have e34 : ρ (.tmp 79) = undef := (hdep ⟨34, .data⟩ (by simp) rfl).1 79 rfl
        have yg : y 26 = some false := (hdep ⟨26, .guard⟩ (by simp) rfl).2 71 rfl
        have ocn : ∀ v, ρ (.const v) = v := fun v => hout (.const v) rfl
        have ofn : ∀ f, ρ (.func f) = .func (.func f) #[] #[] := fun f => hout (.func f) rfl
        clear hdep hout
        refine .inr ⟨?_, rfl⟩
        show (y 26 == some true) = false
        rw [yg]; rfl
      rcases i with _ | i
      · obtain rfl := Option.some.inj ho
        have e35 : ρ (.tmp 80) = undef := (hdep ⟨35, .data⟩ (by simp) rfl).1 80 rfl
        have yg : y 26 = some false := (hdep ⟨26, .guard⟩ (by simp) rfl).2 71 rfl
        have ocn : ∀ v, ρ (.const v) = v := fun v => hout (.const v) rfl
        have ofn : ∀ f, ρ (.func f) = .func (.func f) #[] #[] := fun f => hout (.func f) rfl
        clear hdep hout
        refine .inr ⟨?_, rfl⟩
        show (y 26 == some true) = false
        rw [yg]; rfl
      rcases i with _ | i
      · obtain rfl := Option.some.inj ho
        have e29 : ρ (.tmp 74) = undef := (hdep ⟨29, .data⟩ (by simp) rfl).1 74 rfl
        have e36 : ρ (.tmp 81) = undef := (hdep ⟨36, .data⟩ (by simp) rfl).1 81 rfl
        have yg : y 26 = some false := (hdep ⟨26, .guard⟩ (by simp) rfl).2 71 rfl
        have ocn : ∀ v, ρ (.const v) = v := fun v => hout (.const v) rfl
        have ofn : ∀ f, ρ (.func f) = .func (.func f) #[] #[] := fun f => hout (.func f) rfl
        clear hdep hout
        refine .inr ⟨?_, rfl⟩
        show (y 26 == some true) = false
        rw [yg]; rfl
      rcases i with _ | i
      · obtain rfl := Option.some.inj ho
        have e26 : ρ (.tmp 71) = .bool false := (hdep ⟨26, .data⟩ (by simp) rfl).1 71 rfl
        have e37 : ρ (.tmp 82) = undef := (hdep ⟨37, .data⟩ (by simp) rfl).1 82 rfl
        have ocn : ∀ v, ρ (.const v) = v := fun v => hout (.const v) rfl
        have ofn : ∀ f, ρ (.func f) = .func (.func f) #[] #[] := fun f => hout (.func f) rfl
        clear hdep hout
        refine .inl ⟨?_, ?_⟩
        · rfl
        show Gives _ _ _ (.bool false) _
        refine Gives.val ?_
        go_simp
      rcases i with _ | i
      · obtain rfl := Option.some.inj ho
        have e38 : ρ (.tmp 83) = .bool false := (hdep ⟨38, .data⟩ (by simp) rfl).1 83 rfl
        have ocn : ∀ v, ρ (.const v) = v := fun v => hout (.const v) rfl
        have ofn : ∀ f, ρ (.func f) = .func (.func f) #[] #[] := fun f => hout (.func f) rfl
        clear hdep hout
        refine .inl ⟨?_, ?_⟩
        · rfl
        show Gives _ _ _ (.bool false) _
        refine Gives.val ?_
        go_simp
      cases ho
    case fin =>
      intro x hBx
      have hBf := HAl.out.trans (hBx.mono HAl.out.size)
      go_wp2_with fail
      go_ret
      exact ⟨retBool (by have hfl := HFN.out.1; first | (simp [endF, noSite, HFN.out.1, ho]; done) | (simp [endF, noSite, HFN.out.1, ho]; intros; omega) | (simp_all [endF, noSite]; done) | (simp_all [endF, noSite] <;> omega)), hBf⟩
  · by_cases e1 : n2 = 1
    · subst e1
      go_enter Try.func52, Try.ntmps52
      go_wp2_with fail
      all_goals
        go_ret
        exact ⟨retBool (by have hfl := HFN.out.1; first | (simp [endF, noSite, HFN.out.1, ho]; done) | (simp [endF, noSite, HFN.out.1, ho]; intros; omega) | (simp_all [endF, noSite]; done) | (simp_all [endF, noSite] <;> omega)), by first | exact ((Below.refl _ _).alloc (Nat.le_refl _) _).alloc (by simp) _ | go_grown⟩
    · go_enter Try.func52, Try.ntmps52
      go_wp2_with fail
      all_goals
        go_ret
        exact ⟨retBool (by have hfl := HFN.out.1; first | (simp [endF, noSite, HFN.out.1, ho, e1, e2, *]; done) | (simp [endF, noSite, HFN.out.1, ho, e1, e2, *]; intros; omega) | (simp_all [endF, noSite]; done) | (simp_all [endF, noSite] <;> omega)), by first | exact ((Below.refl _ _).alloc (Nat.le_refl _) _).alloc (by simp) _ | go_grown⟩

set_option maxRecDepth 100000 in
set_option maxHeartbeats 8000000 in
theorem l3EndOk_G2 (x0 : World) (B : Nat) (v : Value) (P : List (List I4)) (h : ProgAt x0 B v P) (hok : progOkF P = true) (s : Value) (F : List Fr) (hF : FrsAt x0 s F) (hl5 : F.length ≤ 5) (n1 n2 n3 n4 n5 n6 : Int) (hg : 0 < F.length) (ho : n3 = 0) :
    Calls Try.prog 52 #[v, aggRun s (n1, n2, n3, n4, n5, n6)] x0 fun e y => e = .returned (.bool (endF P F n2 n3 (n4, n5, n6))) ∧ Below x0.heap.size x0 y := by
  obtain ⟨p, cap, rfl, _⟩ := h.shape
  obtain ⟨ps, cs, rfl, _⟩ := hF.shape
  unfold aggRun
  dsimp only
  have H : Hid (ProgAt x0 B (.slice p P.length cap) P) := h
  have HOK : Hid (progOkF P = true) := hok
  have HS : Hid (FrsAt x0 (.slice ps F.length cs) F) := hF
  have hl := progOkF_len hok
  have hn4 : (P.length : Int) ≤ 4 := by omega
  have hf5 : (F.length : Int) ≤ 5 := by omega
  clear h hok hF hl
  subst ho
  generalize hfn : F.length = fn at *
  generalize hpn : P.length = pn at *
  have HFN : Hid (F.length = fn ∧ P.length = pn) := ⟨hfn, hpn⟩
  clear hfn hpn
  have hgi : (0 : Int) < (fn : Int) := by omega
  obtain ⟨m, hm⟩ : ∃ m, fn = m + 1 := ⟨fn - 1, by omega⟩
  have hfm : (fn : Int) - 1 = (m : Int) := by omega
  have hmi : (m : Int) < (fn : Int) := by omega
  have hm4 : (m : Int) ≤ 4 := by omega
  have HM : Hid (fn = m + 1) := hm
  clear hm
  by_cases e2 : n2 = 2
  · subst e2
    have HAl : Hid (Below x0.heap.size x0 ((x0.alloc (.cells #[.slice ps fn cs, .int .i64 n1, .int .i64 2, .int .i64 0, .int .i64 n4, .int .i64 n5, .int .i64 n6] 56)).alloc (.cells #[.int .i64 0, .int .i64 0, .int .i64 0] 54))) := ((Below.refl _ _).alloc (Nat.le_refl _) _).alloc (by simp) _
    have K00 : Hid (BxN ((x0.alloc (.cells #[.slice ps fn cs, .int .i64 n1, .int .i64 2, .int .i64 0, .int .i64 n4, .int .i64 n5, .int .i64 n6] 56)).alloc (.cells #[.int .i64 0, .int .i64 0, .int .i64 0] 54)) x0.heap.size [.slice ps fn cs, .int .i64 n1, .int .i64 2, .int .i64 0, .int .i64 n4, .int .i64 n5, .int .i64 n6]) := (BxN.new x0 [_, _, _, _, _, _, _] _).later ((Below.refl _ _).alloc (Nat.le_refl _) _)
    go_enter Try.func52, Try.ntmps52
    go_wp2_with fail
    generalize (x0.alloc (.cells #[.slice ps fn cs, .int .i64 n1, .int .i64 2, .int .i64 0, .int .i64 n4, .int .i64 n5, .int .i64 n6] 56)).alloc (.cells #[.int .i64 0, .int .i64 0, .int .i64 0] 54) = X at HAl K00 ⊢
    cases hso : siteOkF P (n4, n5, n6)
    · skip
      have HSO : Hid (∀ z : World, Below x0.heap.size x0 z → Calls Try.prog 74 #[.slice p pn cap, .agg #[.int .i64 n4, .int .i64 n5, .int .i64 n6]] z fun e y => e = .returned (.bool false) ∧ Below z.heap.size z y) := fun z hz => by
        have := l3SiteOk_any z B (.slice p pn cap) P (H.out.later hz) HOK.out (n4, n5, n6)
        rw [hso] at this; exact this
      refine wp_region_vals (by kernel_rfl) (by kernel_rfl) (by kernel_rfl) (by kernel_rfl) (fun j => [.int .i64 ↑fn, .bool true, .bool true, .pointer (some ⟨x0.heap.size, 3, none⟩), .int .i64 0, .bool true, .bool true, .bool true, .slice p pn cap, .pointer (some ⟨x0.heap.size, 4, none⟩), .agg #[.int .i64 n4, .int .i64 n5, .int .i64 n6], .bool false, .bool false, .bool false, undef, undef, undef, undef, undef, undef, undef, undef, undef, undef, undef, .bool false, .bool false, undef, undef, undef, undef, undef, undef, undef, undef, undef, undef, undef, .bool false, .bool false].getD j undef) X (Below.drew (Below.refl _ _)) ?step ⟨#[.slice p pn cap, .agg #[.slice ps fn cs, .int .i64 n1, .int .i64 2, .int .i64 0, .int .i64 n4, .int .i64 n5, .int .i64 n6], undef, .pointer (some ⟨x0.heap.size, 0, none⟩), .bool false, .int .i64 ↑fn, .pointer (some ⟨x0.heap.size + 1, 0, none⟩), .pointer (some ⟨x0.heap.size, 0, none⟩), .slice ps fn cs, .int .i64 ↑fn, .agg #[.int .i64 0, .int .i64 0, .int .i64 0], .pointer (some ⟨x0.heap.size, 2, none⟩), .int .i64 2, .bool false, .bool false, undef, undef, undef, undef, undef, undef, undef, undef, undef, undef, undef, undef, undef, .bool false, .bool false, undef, undef, undef, undef, undef, undef, undef, undef, undef, undef, undef, undef, undef, .bool true, .bool true, .int .i64 ↑fn, .bool true, .bool true, .pointer (some ⟨x0.heap.size, 3, none⟩), .int .i64 0, .bool true, .bool true, .bool true, .slice p pn cap, .pointer (some ⟨x0.heap.size, 4, none⟩), .agg #[.int .i64 n4, .int .i64 n5, .int .i64 n6], .bool false, .bool false, .bool false, undef, undef, undef, undef, undef, undef, undef, undef, undef, undef, undef, .bool false, .bool false, undef, undef, undef, undef, undef, undef, undef, undef, undef, undef, undef, .bool false, undef, undef, undef, undef, undef, undef, undef, undef, undef, undef, undef, undef, undef, undef, undef], []⟩ (by kernel_rfl) ?fin
      case step =>
        intro i o ho ρ y x hBx hdep hout
        rcases i with _ | i
        · obtain rfl := Option.some.inj ho
          have o5 : ρ (.tmp 5) = .int .i64 ↑fn := hout (.tmp 5) rfl
          have ocn : ∀ v, ρ (.const v) = v := fun v => hout (.const v) rfl
          have ofn : ∀ f, ρ (.func f) = .func (.func f) #[] #[] := fun f => hout (.func f) rfl
          clear hdep hout
          refine .inl ⟨?_, ?_⟩
          · rfl
          show Gives _ _ _ (.int .i64 ↑fn) _
          refine Gives.val ?_
          go_simp
        rcases i with _ | i
        · obtain rfl := Option.some.inj ho
          have e0 : ρ (.tmp 45) = .int .i64 ↑fn := (hdep ⟨0, .data⟩ (by simp) rfl).1 45 rfl
          have ocn : ∀ v, ρ (.const v) = v := fun v => hout (.const v) rfl
          have ofn : ∀ f, ρ (.func f) = .func (.func f) #[] #[] := fun f => hout (.func f) rfl
          clear hdep hout
          refine .inl ⟨?_, ?_⟩
          · rfl
          show Gives _ _ _ (.bool true) _
          refine Gives.val ?_
          go_simp
        rcases i with _ | i
        · obtain rfl := Option.some.inj ho
          have e1 : ρ (.tmp 46) = .bool true := (hdep ⟨1, .data⟩ (by simp) rfl).1 46 rfl
          have ocn : ∀ v, ρ (.const v) = v := fun v => hout (.const v) rfl
          have ofn : ∀ f, ρ (.func f) = .func (.func f) #[] #[] := fun f => hout (.func f) rfl
          clear hdep hout
          refine .inl ⟨?_, ?_⟩
          · rfl
          show Gives _ _ _ (.bool true) _
          refine Gives.val ?_
          go_simp
        rcases i with _ | i
        · obtain rfl := Option.some.inj ho
          have o3 : ρ (.tmp 3) = .pointer (some ⟨x0.heap.size, 0, none⟩) := hout (.tmp 3) rfl
          have yg : y 2 = some true := (hdep ⟨2, .guard⟩ (by simp) rfl).2 47 rfl
          have ocn : ∀ v, ρ (.const v) = v := fun v => hout (.const v) rfl
          have ofn : ∀ f, ρ (.func f) = .func (.func f) #[] #[] := fun f => hout (.func f) rfl
          clear hdep hout
          refine .inl ⟨?_, ?_⟩
          · show (y 2 == some true) = true
            rw [yg]; rfl
          show Gives _ _ _ (.pointer (some ⟨x0.heap.size, 3, none⟩)) _
          refine Gives.val ?_
          go_simp
        rcases i with _ | i
        · obtain rfl := Option.some.inj ho
          have e3 : ρ (.tmp 48) = .pointer (some ⟨x0.heap.size, 3, none⟩) := (hdep ⟨3, .data⟩ (by simp) rfl).1 48 rfl
          have yg : y 2 = some true := (hdep ⟨2, .guard⟩ (by simp) rfl).2 47 rfl
          have ocn : ∀ v, ρ (.const v) = v := fun v => hout (.const v) rfl
          have ofn : ∀ f, ρ (.func f) = .func (.func f) #[] #[] := fun f => hout (.func f) rfl
          clear hdep hout
          refine .inl ⟨?_, ?_⟩
          · show (y 2 == some true) = true
            rw [yg]; rfl
          have kb := K00.out.later hBx
          have c0 := kb.c 0 _ rfl
          have c3 := kb.c 3 _ rfl
          have c4 := kb.c 4 _ rfl
          have c5 := kb.c 5 _ rfl
          have c6 := kb.c 6 _ rfl
          have cl0 := kb.lt
          show Gives _ _ _ (.int .i64 0) _
          refine Gives.val ?_
          go_simp
        rcases i with _ | i
        · obtain rfl := Option.some.inj ho
          have e4 : ρ (.tmp 49) = .int .i64 0 := (hdep ⟨4, .data⟩ (by simp) rfl).1 49 rfl
          have yg : y 2 = some true := (hdep ⟨2, .guard⟩ (by simp) rfl).2 47 rfl
          have ocn : ∀ v, ρ (.const v) = v := fun v => hout (.const v) rfl
          have ofn : ∀ f, ρ (.func f) = .func (.func f) #[] #[] := fun f => hout (.func f) rfl
          clear hdep hout
          refine .inl ⟨?_, ?_⟩
          · show (y 2 == some true) = true
            rw [yg]; rfl
          show Gives _ _ _ (.bool true) _
          refine Gives.val ?_
          go_simp
        rcases i with _ | i
        · obtain rfl := Option.some.inj ho
          have e2 : ρ (.tmp 47) = .bool true := (hdep ⟨2, .data⟩ (by simp) rfl).1 47 rfl
          have e5 : ρ (.tmp 50) = .bool true := (hdep ⟨5, .data⟩ (by simp) rfl).1 50 rfl
          have ocn : ∀ v, ρ (.const v) = v := fun v => hout (.const v) rfl
          have ofn : ∀ f, ρ (.func f) = .func (.func f) #[] #[] := fun f => hout (.func f) rfl
          clear hdep hout
          refine .inl ⟨?_, ?_⟩
          · rfl
          show Gives _ _ _ (.bool true) _
          refine Gives.val ?_
          go_simp
        rcases i with _ | i
        · obtain rfl := Option.some.inj ho
          have e6 : ρ (.tmp 51) = .bool true := (hdep ⟨6, .data⟩ (by simp) rfl).1 51 rfl
          have ocn : ∀ v, ρ (.const v) = v := fun v => hout (.const v) rfl
          have ofn : ∀ f, ρ (.func f) = .func (.func f) #[] #[] := fun f => hout (.func f) rfl
          clear hdep hout
          refine .inl ⟨?_, ?_⟩
          · rfl
          show Gives _ _ _ (.bool true) _
          refine Gives.val ?_
          go_simp
        rcases i with _ | i
        · obtain rfl := Option.some.inj ho
          have o0 : ρ (.tmp 0) = .slice p pn cap := hout (.tmp 0) rfl
          have yg : y 7 = some true := (hdep ⟨7, .guard⟩ (by simp) rfl).2 52 rfl
          have ocn : ∀ v, ρ (.const v) = v := fun v => hout (.const v) rfl
          have ofn : ∀ f, ρ (.func f) = .func (.func f) #[] #[] := fun f => hout (.func f) rfl
          clear hdep hout
          refine .inl ⟨?_, ?_⟩
          · show (y 7 == some true) = true
            rw [yg]; rfl
          show Gives _ _ _ (.slice p pn cap) _
          refine Gives.val ?_
          go_simp
        rcases i with _ | i
        · obtain rfl := Option.some.inj ho
          have o3 : ρ (.tmp 3) = .pointer (some ⟨x0.heap.size, 0, none⟩) := hout (.tmp 3) rfl
          have yg : y 7 = some true := (hdep ⟨7, .guard⟩ (by simp) rfl).2 52 rfl
          have ocn : ∀ v, ρ (.const v) = v := fun v => hout (.const v) rfl
          have ofn : ∀ f, ρ (.func f) = .func (.func f) #[] #[] := fun f => hout (.func f) rfl
          clear hdep hout
          refine .inl ⟨?_, ?_⟩
          · show (y 7 == some true) = true
            rw [yg]; rfl
          show Gives _ _ _ (.pointer (some ⟨x0.heap.size, 4, none⟩)) _
          refine Gives.val ?_
          go_simp
        rcases i with _ | i
        · obtain rfl := Option.some.inj ho
          have e9 : ρ (.tmp 54) = .pointer (some ⟨x0.heap.size, 4, none⟩) := (hdep ⟨9, .data⟩ (by simp) rfl).1 54 rfl
          have yg : y 7 = some true := (hdep ⟨7, .guard⟩ (by simp) rfl).2 52 rfl
          have ocn : ∀ v, ρ (.const v) = v := fun v => hout (.const v) rfl
          have ofn : ∀ f, ρ (.func f) = .func (.func f) #[] #[] := fun f => hout (.func f) rfl
          clear hdep hout
          refine .inl ⟨?_, ?_⟩
          · show (y 7 == some true) = true
            rw [yg]; rfl
          have kb := K00.out.later hBx
          have c0 := kb.c 0 _ rfl
          have c3 := kb.c 3 _ rfl
          have c4 := kb.c 4 _ rfl
          have c5 := kb.c 5 _ rfl
          have c6 := kb.c 6 _ rfl
          have cl0 := kb.lt
          show Gives _ _ _ (.agg #[.int .i64 n4, .int .i64 n5, .int .i64 n6]) _
          refine Gives.val ?_
          go_simp
        rcases i with _ | i
        · obtain rfl := Option.some.inj ho
          have e8 : ρ (.tmp 53) = .slice p pn cap := (hdep ⟨8, .data⟩ (by simp) rfl).1 53 rfl
          have e10 : ρ (.tmp 55) = .agg #[.int .i64 n4, .int .i64 n5, .int .i64 n6] := (hdep ⟨10, .data⟩ (by simp) rfl).1 55 rfl
          have yg : y 7 = some true := (hdep ⟨7, .guard⟩ (by simp) rfl).2 52 rfl
          have ocn : ∀ v, ρ (.const v) = v := fun v => hout (.const v) rfl
          have ofn : ∀ f, ρ (.func f) = .func (.func f) #[] #[] := fun f => hout (.func f) rfl
          clear hdep hout
          refine .inl ⟨?_, ?_⟩
          · show (y 7 == some true) = true
            rw [yg]; rfl
          show Gives _ _ _ (.bool false) _
          refine Gives.call (HSO.out x (HAl.out.trans (hBx.mono HAl.out.size))) ?_
          go_simp
        rcases i with _ | i
        · obtain rfl := Option.some.inj ho
          have e7 : ρ (.tmp 52) = .bool true := (hdep ⟨7, .data⟩ (by simp) rfl).1 52 rfl
          have e11 : ρ (.tmp 56) = .bool false := (hdep ⟨11, .data⟩ (by simp) rfl).1 56 rfl
          have ocn : ∀ v, ρ (.const v) = v := fun v => hout (.const v) rfl
          have ofn : ∀ f, ρ (.func f) = .func (.func f) #[] #[] := fun f => hout (.func f) rfl
          clear hdep hout
          refine .inl ⟨?_, ?_⟩
          · rfl
          show Gives _ _ _ (.bool false) _
          refine Gives.val ?_
          go_simp
        rcases i with _ | i
        · obtain rfl := Option.some.inj ho
          have e12 : ρ (.tmp 57) = .bool false := (hdep ⟨12, .data⟩ (by simp) rfl).1 57 rfl
          have ocn : ∀ v, ρ (.const v) = v := fun v => hout (.const v) rfl
          have ofn : ∀ f, ρ (.func f) = .func (.func f) #[] #[] := fun f => hout (.func f) rfl
          clear hdep hout
          refine .inl ⟨?_, ?_⟩
          · rfl
          show Gives _ _ _ (.bool false) _
          refine Gives.val ?_
          go_simp
        rcases i with _ | i
        · obtain rfl := Option.some.inj ho
          have o3 : ρ (.tmp 3) = .pointer (some ⟨x0.heap.size, 0, none⟩) := hout (.tmp 3) rfl
          have yg : y 13 = some false := (hdep ⟨13, .guard⟩ (by simp) rfl).2 58 rfl
          have ocn : ∀ v, ρ (.const v) = v := fun v => hout (.const v) rfl
          have ofn : ∀ f, ρ (.func f) = .func (.func f) #[] #[] := fun f => hout (.func f) rfl
          clear hdep hout
          refine .inr ⟨?_, rfl⟩
          show (y 13 == some true) = false
          rw [yg]; rfl
        rcases i with _ | i
        · obtain rfl := Option.some.inj ho
          have e14 : ρ (.tmp 59) = undef := (hdep ⟨14, .data⟩ (by simp) rfl).1 59 rfl
          have yg : y 13 = some false := (hdep ⟨13, .guard⟩ (by simp) rfl).2 58 rfl
          have ocn : ∀ v, ρ (.const v) = v := fun v => hout (.const v) rfl
          have ofn : ∀ f, ρ (.func f) = .func (.func f) #[] #[] := fun f => hout (.func f) rfl
          clear hdep hout
          refine .inr ⟨?_, rfl⟩
          show (y 13 == some true) = false
          rw [yg]; rfl
        rcases i with _ | i
        · obtain rfl := Option.some.inj ho
          have e15 : ρ (.tmp 60) = undef := (hdep ⟨15, .data⟩ (by simp) rfl).1 60 rfl
          have yg : y 13 = some false := (hdep ⟨13, .guard⟩ (by simp) rfl).2 58 rfl
          have ocn : ∀ v, ρ (.const v) = v := fun v => hout (.const v) rfl
          have ofn : ∀ f, ρ (.func f) = .func (.func f) #[] #[] := fun f => hout (.func f) rfl
          clear hdep hout
          refine .inr ⟨?_, rfl⟩
          show (y 13 == some true) = false
          rw [yg]; rfl
        rcases i with _ | i
        · obtain rfl := Option.some.inj ho
          have o3 : ρ (.tmp 3) = .pointer (some ⟨x0.heap.size, 0, none⟩) := hout (.tmp 3) rfl
          have yg : y 13 = some false := (hdep ⟨13, .guard⟩ (by simp) rfl).2 58 rfl
          have ocn : ∀ v, ρ (.const v) = v := fun v => hout (.const v) rfl
          have ofn : ∀ f, ρ (.func f) = .func (.func f) #[] #[] := fun f => hout (.func f) rfl
          clear hdep hout
          refine .inr ⟨?_, rfl⟩
          show (y 13 == some true) = false
          rw [yg]; rfl
        rcases i with _ | i
        · obtain rfl := Option.some.inj ho
          have e17 : ρ (.tmp 62) = undef := (hdep ⟨17, .data⟩ (by simp) rfl).1 62 rfl
          have yg : y 13 = some false := (hdep ⟨13, .guard⟩ (by simp) rfl).2 58 rfl
          have ocn : ∀ v, ρ (.const v) = v := fun v => hout (.const v) rfl
          have ofn : ∀ f, ρ (.func f) = .func (.func f) #[] #[] := fun f => hout (.func f) rfl
          clear hdep hout
          refine .inr ⟨?_, rfl⟩
          show (y 13 == some true) = false
          rw [yg]; rfl
        rcases i with _ | i
        · obtain rfl := Option.some.inj ho
          have o5 : ρ (.tmp 5) = .int .i64 ↑fn := hout (.tmp 5) rfl
          have yg : y 13 = some false := (hdep ⟨13, .guard⟩ (by simp) rfl).2 58 rfl
          have ocn : ∀ v, ρ (.const v) = v := fun v => hout (.const v) rfl
          have ofn : ∀ f, ρ (.func f) = .func (.func f) #[] #[] := fun f => hout (.func f) rfl
          clear hdep hout
          refine .inr ⟨?_, rfl⟩
          show (y 13 == some true) = false
          rw [yg]; rfl
        rcases i with _ | i
        · obtain rfl := Option.some.inj ho
          have e19 : ρ (.tmp 64) = undef := (hdep ⟨19, .data⟩ (by simp) rfl).1 64 rfl
          have yg : y 13 = some false := (hdep ⟨13, .guard⟩ (by simp) rfl).2 58 rfl
          have ocn : ∀ v, ρ (.const v) = v := fun v => hout (.const v) rfl
          have ofn : ∀ f, ρ (.func f) = .func (.func f) #[] #[] := fun f => hout (.func f) rfl
          clear hdep hout
          refine .inr ⟨?_, rfl⟩
          show (y 13 == some true) = false
          rw [yg]; rfl
        rcases i with _ | i
        · obtain rfl := Option.some.inj ho
          have e18 : ρ (.tmp 63) = undef := (hdep ⟨18, .data⟩ (by simp) rfl).1 63 rfl
          have e20 : ρ (.tmp 65) = undef := (hdep ⟨20, .data⟩ (by simp) rfl).1 65 rfl
          have yg : y 13 = some false := (hdep ⟨13, .guard⟩ (by simp) rfl).2 58 rfl
          have ocn : ∀ v, ρ (.const v) = v := fun v => hout (.const v) rfl
          have ofn : ∀ f, ρ (.func f) = .func (.func f) #[] #[] := fun f => hout (.func f) rfl
          clear hdep hout
          refine .inr ⟨?_, rfl⟩
          show (y 13 == some true) = false
          rw [yg]; rfl
        rcases i with _ | i
        · obtain rfl := Option.some.inj ho
          have e21 : ρ (.tmp 66) = undef := (hdep ⟨21, .data⟩ (by simp) rfl).1 66 rfl
          have yg : y 13 = some false := (hdep ⟨13, .guard⟩ (by simp) rfl).2 58 rfl
          have ocn : ∀ v, ρ (.const v) = v := fun v => hout (.const v) rfl
          have ofn : ∀ f, ρ (.func f) = .func (.func f) #[] #[] := fun f => hout (.func f) rfl
          clear hdep hout
          refine .inr ⟨?_, rfl⟩
          show (y 13 == some true) = false
          rw [yg]; rfl
        rcases i with _ | i
        · obtain rfl := Option.some.inj ho
          have e22 : ρ (.tmp 67) = undef := (hdep ⟨22, .data⟩ (by simp) rfl).1 67 rfl
          have yg : y 13 = some false := (hdep ⟨13, .guard⟩ (by simp) rfl).2 58 rfl
          have ocn : ∀ v, ρ (.const v) = v := fun v => hout (.const v) rfl
          have ofn : ∀ f, ρ (.func f) = .func (.func f) #[] #[] := fun f => hout (.func f) rfl
          clear hdep hout
          refine .inr ⟨?_, rfl⟩
          show (y 13 == some true) = false
          rw [yg]; rfl
        rcases i with _ | i
        · obtain rfl := Option.some.inj ho
          have e16 : ρ (.tmp 61) = undef := (hdep ⟨16, .data⟩ (by simp) rfl).1 61 rfl
          have e23 : ρ (.tmp 68) = undef := (hdep ⟨23, .data⟩ (by simp) rfl).1 68 rfl
          have yg : y 13 = some false := (hdep ⟨13, .guard⟩ (by simp) rfl).2 58 rfl
          have ocn : ∀ v, ρ (.const v) = v := fun v => hout (.const v) rfl
          have ofn : ∀ f, ρ (.func f) = .func (.func f) #[] #[] := fun f => hout (.func f) rfl
          clear hdep hout
          refine .inr ⟨?_, rfl⟩
          show (y 13 == some true) = false
          rw [yg]; rfl
        rcases i with _ | i
        · obtain rfl := Option.some.inj ho
          have e13 : ρ (.tmp 58) = .bool false := (hdep ⟨13, .data⟩ (by simp) rfl).1 58 rfl
          have e24 : ρ (.tmp 69) = undef := (hdep ⟨24, .data⟩ (by simp) rfl).1 69 rfl
          have ocn : ∀ v, ρ (.const v) = v := fun v => hout (.const v) rfl
          have ofn : ∀ f, ρ (.func f) = .func (.func f) #[] #[] := fun f => hout (.func f) rfl
          clear hdep hout
          refine .inl ⟨?_, ?_⟩
          · rfl
          show Gives _ _ _ (.bool false) _
          refine Gives.val ?_
          go_simp
        rcases i with _ | i
        · obtain rfl := Option.some.inj ho
          have e25 : ρ (.tmp 70) = .bool false := (hdep ⟨25, .data⟩ (by simp) rfl).1 70 rfl
          have ocn : ∀ v, ρ (.const v) = v := fun v => hout (.const v) rfl
          have ofn : ∀ f, ρ (.func f) = .func (.func f) #[] #[] := fun f => hout (.func f) rfl
          clear hdep hout
          refine .inl ⟨?_, ?_⟩
          · rfl
          show Gives _ _ _ (.bool false) _
          refine Gives.val ?_
          go_simp
        rcases i with _ | i
        · obtain rfl := Option.some.inj ho
          have o3 : ρ (.tmp 3) = .pointer (some ⟨x0.heap.size, 0, none⟩) := hout (.tmp 3) rfl
          have yg : y 26 = some false := (hdep ⟨26, .guard⟩ (by simp) rfl).2 71 rfl
          have ocn : ∀ v, ρ (.const v) = v := fun v => hout (.const v) rfl
          have ofn : ∀ f, ρ (.func f) = .func (.func f) #[] #[] := fun f => hout (.func f) rfl
          clear hdep hout
          refine .inr ⟨?_, rfl⟩
          show (y 26 == some true) = false
          rw [yg]; rfl
        rcases i with _ | i
        · obtain rfl := Option.some.inj ho
          have e27 : ρ (.tmp 72) = undef := (hdep ⟨27, .data⟩ (by simp) rfl).1 72 rfl
          have yg : y 26 = some false := (hdep ⟨26, .guard⟩ (by simp) rfl).2 71 rfl
          have ocn : ∀ v, ρ (.const v) = v := fun v => hout (.const v) rfl
          have ofn : ∀ f, ρ (.func f) = .func (.func f) #[] #[] := fun f => hout (.func f) rfl
          clear hdep hout
          refine .inr ⟨?_, rfl⟩
          show (y 26 == some true) = false
          rw [yg]; rfl
        rcases i with _ | i
        · obtain rfl := Option.some.inj ho
          have e28 : ρ (.tmp 73) = undef := (hdep ⟨28, .data⟩ (by simp) rfl).1 73 rfl
          have yg : y 26 = some false := (hdep ⟨26, .guard⟩ (by simp) rfl).2 71 rfl
          have ocn : ∀ v, ρ (.const v) = v := fun v => hout (.const v) rfl
          have ofn : ∀ f, ρ (.func f) = .func (.func f) #[] #[] := fun f => hout (.func f) rfl
          clear hdep hout
          refine .inr ⟨?_, rfl⟩
          show (y 26 == some true) = false
          rw [yg]; rfl
        rcases i with _ | i
        · obtain rfl := Option.some.inj ho
          have o3 : ρ (.tmp 3) = .pointer (some ⟨x0.heap.size, 0, none⟩) := hout (.tmp 3) rfl
          have yg : y 26 = some false := (hdep ⟨26, .guard⟩ (by simp) rfl).2 71 rfl
          have ocn : ∀ v, ρ (.const v) = v := fun v => hout (.const v) rfl
          have ofn : ∀ f, ρ (.func f) = .func (.func f) #[] #[] := fun f => hout (.func f) rfl
          clear hdep hout
          refine .inr ⟨?_, rfl⟩
          show (y 26 == some true) = false
          rw [yg]; rfl
        rcases i with _ | i
        · obtain rfl := Option.some.inj ho
          have e30 : ρ (.tmp 75) = undef := (hdep ⟨30, .data⟩ (by simp) rfl).1 75 rfl
          have yg : y 26 = some false := (hdep ⟨26, .guard⟩ (by simp) rfl).2 71 rfl
          have ocn : ∀ v, ρ (.const v) = v := fun v => hout (.const v) rfl
          have ofn : ∀ f, ρ (.func f) = .func (.func f) #[] #[] := fun f => hout (.func f) rfl
          clear hdep hout
          refine .inr ⟨?_, rfl⟩
          show (y 26 == some true) = false
          rw [yg]; rfl
        rcases i with _ | i
        · obtain rfl := Option.some.inj ho
          have o5 : ρ (.tmp 5) = .int .i64 ↑fn := hout (.tmp 5) rfl
          have yg : y 26 = some false := (hdep ⟨26, .guard⟩ (by simp) rfl).2 71 rfl
          have ocn : ∀ v, ρ (.const v) = v := fun v => hout (.const v) rfl
          have ofn : ∀ f, ρ (.func f) = .func (.func f) #[] #[] := fun f => hout (.func f) rfl
          clear hdep hout
          refine .inr ⟨?_, rfl⟩
          show (y 26 == some true) = false
          rw [yg]; rfl
        rcases i with _ | i
        · obtain rfl := Option.some.inj ho
          have e32 : ρ (.tmp 77) = undef := (hdep ⟨32, .data⟩ (by simp) rfl).1 77 rfl
          have yg : y 26 = some false := (hdep ⟨26, .guard⟩ (by simp) rfl).2 71 rfl
          have ocn : ∀ v, ρ (.const v) = v := fun v => hout (.const v) rfl
          have ofn : ∀ f, ρ (.func f) = .func (.func f) #[] #[] := fun f => hout (.func f) rfl
          clear hdep hout
          refine .inr ⟨?_, rfl⟩
          show (y 26 == some true) = false
          rw [yg]; rfl
        rcases i with _ | i
        · obtain rfl := Option.some.inj ho
          have e31 : ρ (.tmp 76) = undef := (hdep ⟨31, .data⟩ (by simp) rfl).1 76 rfl
          have e33 : ρ (.tmp 78) = undef := (hdep ⟨33, .data⟩ (by simp) rfl).1 78 rfl
          have yg : y 26 = some false := (hdep ⟨26, .guard⟩ (by simp) rfl).2 71 rfl
          have ocn : ∀ v, ρ (.const v) = v := fun v => hout (.const v) rfl
          have ofn : ∀ f, ρ (.func f) = .func (.func f) #[] #[] := fun f => hout (.func f) rfl
          clear hdep hout
          refine .inr ⟨?_, rfl⟩
          show (y 26 == some true) = false
          rw [yg]; rfl
        rcases i with _ | i
        · obtain rfl := Option.some.inj ho
          have e34 : ρ (.tmp 79) = undef := (hdep ⟨34, .data⟩ (by simp) rfl).1 79 rfl
          have yg : y 26 = some false := (hdep ⟨26, .guard⟩ (by simp) rfl).2 71 rfl
          have ocn : ∀ v, ρ (.const v) = v := fun v => hout (.const v) rfl
          have ofn : ∀ f, ρ (.func f) = .func (.func f) #[] #[] := fun f => hout (.func f) rfl
          clear hdep hout
          refine .inr ⟨?_, rfl⟩
          show (y 26 == some true) = false
          rw [yg]; rfl
        rcases i with _ | i
        · obtain rfl := Option.some.inj ho
          have e35 : ρ (.tmp 80) = undef := (hdep ⟨35, .data⟩ (by simp) rfl).1 80 rfl
          have yg : y 26 = some false := (hdep ⟨26, .guard⟩ (by simp) rfl).2 71 rfl
          have ocn : ∀ v, ρ (.const v) = v := fun v => hout (.const v) rfl
          have ofn : ∀ f, ρ (.func f) = .func (.func f) #[] #[] := fun f => hout (.func f) rfl
          clear hdep hout
          refine .inr ⟨?_, rfl⟩
          show (y 26 == some true) = false
          rw [yg]; rfl
        rcases i with _ | i
        · obtain rfl := Option.some.inj ho
          have e29 : ρ (.tmp 74) = undef := (hdep ⟨29, .data⟩ (by simp) rfl).1 74 rfl
          have e36 : ρ (.tmp 81) = undef := (hdep ⟨36, .data⟩ (by simp) rfl).1 81 rfl
          have yg : y 26 = some false := (hdep ⟨26, .guard⟩ (by simp) rfl).2 71 rfl
          have ocn : ∀ v, ρ (.const v) = v := fun v => hout (.const v) rfl
          have ofn : ∀ f, ρ (.func f) = .func (.func f) #[] #[] := fun f => hout (.func f) rfl
          clear hdep hout
          refine .inr ⟨?_, rfl⟩
          show (y 26 == some true) = false
          rw [yg]; rfl
        rcases i with _ | i
        · obtain rfl := Option.some.inj ho
          have e26 : ρ (.tmp 71) = .bool false := (hdep ⟨26, .data⟩ (by simp) rfl).1 71 rfl
          have e37 : ρ (.tmp 82) = undef := (hdep ⟨37, .data⟩ (by simp) rfl).1 82 rfl
          have ocn : ∀ v, ρ (.const v) = v := fun v => hout (.const v) rfl
          have ofn : ∀ f, ρ (.func f) = .func (.func f) #[] #[] := fun f => hout (.func f) rfl
          clear hdep hout
          refine .inl ⟨?_, ?_⟩
          · rfl
          show Gives _ _ _ (.bool false) _
          refine Gives.val ?_
          go_simp
        rcases i with _ | i
        · obtain rfl := Option.some.inj ho
          have e38 : ρ (.tmp 83) = .bool false := (hdep ⟨38, .data⟩ (by simp) rfl).1 83 rfl
          have ocn : ∀ v, ρ (.const v) = v := fun v => hout (.const v) rfl
          have ofn : ∀ f, ρ (.func f) = .func (.func f) #[] #[] := fun f => hout (.func f) rfl
          clear hdep hout
          refine .inl ⟨?_, ?_⟩
          · rfl
          show Gives _ _ _ (.bool false) _
          refine Gives.val ?_
          go_simp
        cases ho
      case fin =>
        intro x hBx
        have hBf := HAl.out.trans (hBx.mono HAl.out.size)
        go_wp2_with fail
        go_ret
        exact ⟨retBool (by have hfl := HFN.out.1; first | (simp [endF, noSite, HFN.out.1, hg, hso]; done) | (simp [endF, noSite, HFN.out.1, hg, hso]; intros; omega) | (simp_all [endF, noSite]; done) | (simp_all [endF, noSite] <;> omega)), hBf⟩
    · skip
      have HSO : Hid (∀ z : World, Below x0.heap.size x0 z → Calls Try.prog 74 #[.slice p pn cap, .agg #[.int .i64 n4, .int .i64 n5, .int .i64 n6]] z fun e y => e = .returned (.bool true) ∧ Below z.heap.size z y) := fun z hz => by
        have := l3SiteOk_any z B (.slice p pn cap) P (H.out.later hz) HOK.out (n4, n5, n6)
        rw [hso] at this; exact this
      obtain ⟨g, o, hp, hgx, hfr⟩ := FrsAt.frame (p := ps) (cap := cs) (F := F) (j := F.length - 1) (by have := HS.out; rw [← HFN.out.1] at this; exact this) (by rw [HFN.out.1]; omega)
      subst hp
      have HT : Hid ((F.getD (F.length - 1) fr0) = topF F) := rfl
      rw [HT.out] at hfr
      rw [HFN.out.1, show fn - 1 = m by have := HM.out; omega] at hfr
      have t0 := hfr.c0
      have t2 := hfr.c2
      clear hfr
      by_cases hpq : n4 = (topF F).p
      · have hpb : (n4 == (topF F).p) = true := by simpa using hpq
        refine wp_region_vals (by kernel_rfl) (by kernel_rfl) (by kernel_rfl) (by kernel_rfl) (fun j => [.int .i64 ↑fn, .bool true, .bool true, .pointer (some ⟨x0.heap.size, 3, none⟩), .int .i64 0, .bool true, .bool true, .bool true, .slice p pn cap, .pointer (some ⟨x0.heap.size, 4, none⟩), .agg #[.int .i64 n4, .int .i64 n5, .int .i64 n6], .bool true, .bool true, .bool true, .pointer (some ⟨x0.heap.size, 4, none⟩), .pointer (some ⟨x0.heap.size, 4, none⟩), .int .i64 n4, .pointer (some ⟨x0.heap.size, 0, none⟩), .slice (some ⟨g, o, none⟩) fn cs, .int .i64 ↑fn, .int .i64 m, .pointer (some ⟨g, o + m * 6, none⟩), .pointer (some ⟨g, o + m * 6, none⟩), .int .i64 (topF F).p, .bool true, .bool true, .bool true, .pointer (some ⟨x0.heap.size, 4, none⟩), .pointer (some ⟨x0.heap.size, 5, none⟩), .int .i64 n5, .pointer (some ⟨x0.heap.size, 0, none⟩), .slice (some ⟨g, o, none⟩) fn cs, .int .i64 ↑fn, .int .i64 m, .pointer (some ⟨g, o + m * 6, none⟩), .pointer (some ⟨g, o + m * 6 + 2, none⟩), .int .i64 (topF F).t, .bool (n5 == (topF F).t), .bool (n5 == (topF F).t), .bool (n5 == (topF F).t)].getD j undef) X (Below.drew (Below.refl _ _)) ?step ⟨#[.slice p pn cap, .agg #[.slice (some ⟨g, o, none⟩) fn cs, .int .i64 n1, .int .i64 2, .int .i64 0, .int .i64 n4, .int .i64 n5, .int .i64 n6], undef, .pointer (some ⟨x0.heap.size, 0, none⟩), .bool (n5 == (topF F).t), .int .i64 ↑fn, .pointer (some ⟨x0.heap.size + 1, 0, none⟩), .pointer (some ⟨x0.heap.size, 0, none⟩), .slice (some ⟨g, o, none⟩) fn cs, .int .i64 ↑fn, .agg #[.int .i64 0, .int .i64 0, .int .i64 0], .pointer (some ⟨x0.heap.size, 2, none⟩), .int .i64 2, .bool false, .bool false, undef, undef, undef, undef, undef, undef, undef, undef, undef, undef, undef, undef, undef, .bool false, .bool false, undef, undef, undef, undef, undef, undef, undef, undef, undef, undef, undef, undef, undef, .bool true, .bool true, .int .i64 ↑fn, .bool true, .bool true, .pointer (some ⟨x0.heap.size, 3, none⟩), .int .i64 0, .bool true, .bool true, .bool true, .slice p pn cap, .pointer (some ⟨x0.heap.size, 4, none⟩), .agg #[.int .i64 n4, .int .i64 n5, .int .i64 n6], .bool true, .bool true, .bool true, .pointer (some ⟨x0.heap.size, 4, none⟩), .pointer (some ⟨x0.heap.size, 4, none⟩), .int .i64 n4, .pointer (some ⟨x0.heap.size, 0, none⟩), .slice (some ⟨g, o, none⟩) fn cs, .int .i64 ↑fn, .int .i64 m, .pointer (some ⟨g, o + m * 6, none⟩), .pointer (some ⟨g, o + m * 6, none⟩), .int .i64 (topF F).p, .bool true, .bool true, .bool true, .pointer (some ⟨x0.heap.size, 4, none⟩), .pointer (some ⟨x0.heap.size, 5, none⟩), .int .i64 n5, .pointer (some ⟨x0.heap.size, 0, none⟩), .slice (some ⟨g, o, none⟩) fn cs, .int .i64 ↑fn, .int .i64 m, .pointer (some ⟨g, o + m * 6, none⟩), .pointer (some ⟨g, o + m * 6 + 2, none⟩), .int .i64 (topF F).t, .bool (n5 == (topF F).t), .bool (n5 == (topF F).t), undef, undef, undef, undef, undef, undef, undef, undef, undef, undef, undef, undef, undef, undef, undef], []⟩ (by kernel_rfl) ?fin
        case step =>
          intro i o ho ρ y x hBx hdep hout
          rcases i with _ | i
          · obtain rfl := Option.some.inj ho
            have o5 : ρ (.tmp 5) = .int .i64 ↑fn := hout (.tmp 5) rfl
            have ocn : ∀ v, ρ (.const v) = v := fun v => hout (.const v) rfl
            have ofn : ∀ f, ρ (.func f) = .func (.func f) #[] #[] := fun f => hout (.func f) rfl
            clear hdep hout
            refine .inl ⟨?_, ?_⟩
            · rfl
            show Gives _ _ _ (.int .i64 ↑fn) _
            refine Gives.val ?_
            go_simp
          rcases i with _ | i
          · obtain rfl := Option.some.inj ho
            have e0 : ρ (.tmp 45) = .int .i64 ↑fn := (hdep ⟨0, .data⟩ (by simp) rfl).1 45 rfl
            have ocn : ∀ v, ρ (.const v) = v := fun v => hout (.const v) rfl
            have ofn : ∀ f, ρ (.func f) = .func (.func f) #[] #[] := fun f => hout (.func f) rfl
            clear hdep hout
            refine .inl ⟨?_, ?_⟩
            · rfl
            show Gives _ _ _ (.bool true) _
            refine Gives.val ?_
            go_simp
          rcases i with _ | i
          · obtain rfl := Option.some.inj ho
            have e1 : ρ (.tmp 46) = .bool true := (hdep ⟨1, .data⟩ (by simp) rfl).1 46 rfl
            have ocn : ∀ v, ρ (.const v) = v := fun v => hout (.const v) rfl
            have ofn : ∀ f, ρ (.func f) = .func (.func f) #[] #[] := fun f => hout (.func f) rfl
            clear hdep hout
            refine .inl ⟨?_, ?_⟩
            · rfl
            show Gives _ _ _ (.bool true) _
            refine Gives.val ?_
            go_simp
          rcases i with _ | i
          · obtain rfl := Option.some.inj ho
            have o3 : ρ (.tmp 3) = .pointer (some ⟨x0.heap.size, 0, none⟩) := hout (.tmp 3) rfl
            have yg : y 2 = some true := (hdep ⟨2, .guard⟩ (by simp) rfl).2 47 rfl
            have ocn : ∀ v, ρ (.const v) = v := fun v => hout (.const v) rfl
            have ofn : ∀ f, ρ (.func f) = .func (.func f) #[] #[] := fun f => hout (.func f) rfl
            clear hdep hout
            refine .inl ⟨?_, ?_⟩
            · show (y 2 == some true) = true
              rw [yg]; rfl
            show Gives _ _ _ (.pointer (some ⟨x0.heap.size, 3, none⟩)) _
            refine Gives.val ?_
            go_simp
          rcases i with _ | i
          · obtain rfl := Option.some.inj ho
            have e3 : ρ (.tmp 48) = .pointer (some ⟨x0.heap.size, 3, none⟩) := (hdep ⟨3, .data⟩ (by simp) rfl).1 48 rfl
            have yg : y 2 = some true := (hdep ⟨2, .guard⟩ (by simp) rfl).2 47 rfl
            have ocn : ∀ v, ρ (.const v) = v := fun v => hout (.const v) rfl
            have ofn : ∀ f, ρ (.func f) = .func (.func f) #[] #[] := fun f => hout (.func f) rfl
            clear hdep hout
            refine .inl ⟨?_, ?_⟩
            · show (y 2 == some true) = true
              rw [yg]; rfl
            have kb := K00.out.later hBx
            have c0 := kb.c 0 _ rfl
            have c3 := kb.c 3 _ rfl
            have c4 := kb.c 4 _ rfl
            have c5 := kb.c 5 _ rfl
            have c6 := kb.c 6 _ rfl
            have cl0 := kb.lt
            show Gives _ _ _ (.int .i64 0) _
            refine Gives.val ?_
            go_simp
          rcases i with _ | i
          · obtain rfl := Option.some.inj ho
            have e4 : ρ (.tmp 49) = .int .i64 0 := (hdep ⟨4, .data⟩ (by simp) rfl).1 49 rfl
            have yg : y 2 = some true := (hdep ⟨2, .guard⟩ (by simp) rfl).2 47 rfl
            have ocn : ∀ v, ρ (.const v) = v := fun v => hout (.const v) rfl
            have ofn : ∀ f, ρ (.func f) = .func (.func f) #[] #[] := fun f => hout (.func f) rfl
            clear hdep hout
            refine .inl ⟨?_, ?_⟩
            · show (y 2 == some true) = true
              rw [yg]; rfl
            show Gives _ _ _ (.bool true) _
            refine Gives.val ?_
            go_simp
          rcases i with _ | i
          · obtain rfl := Option.some.inj ho
            have e2 : ρ (.tmp 47) = .bool true := (hdep ⟨2, .data⟩ (by simp) rfl).1 47 rfl
            have e5 : ρ (.tmp 50) = .bool true := (hdep ⟨5, .data⟩ (by simp) rfl).1 50 rfl
            have ocn : ∀ v, ρ (.const v) = v := fun v => hout (.const v) rfl
            have ofn : ∀ f, ρ (.func f) = .func (.func f) #[] #[] := fun f => hout (.func f) rfl
            clear hdep hout
            refine .inl ⟨?_, ?_⟩
            · rfl
            show Gives _ _ _ (.bool true) _
            refine Gives.val ?_
            go_simp
          rcases i with _ | i
          · obtain rfl := Option.some.inj ho
            have e6 : ρ (.tmp 51) = .bool true := (hdep ⟨6, .data⟩ (by simp) rfl).1 51 rfl
            have ocn : ∀ v, ρ (.const v) = v := fun v => hout (.const v) rfl
            have ofn : ∀ f, ρ (.func f) = .func (.func f) #[] #[] := fun f => hout (.func f) rfl
            clear hdep hout
            refine .inl ⟨?_, ?_⟩
            · rfl
            show Gives _ _ _ (.bool true) _
            refine Gives.val ?_
            go_simp
          rcases i with _ | i
          · obtain rfl := Option.some.inj ho
            have o0 : ρ (.tmp 0) = .slice p pn cap := hout (.tmp 0) rfl
            have yg : y 7 = some true := (hdep ⟨7, .guard⟩ (by simp) rfl).2 52 rfl
            have ocn : ∀ v, ρ (.const v) = v := fun v => hout (.const v) rfl
            have ofn : ∀ f, ρ (.func f) = .func (.func f) #[] #[] := fun f => hout (.func f) rfl
            clear hdep hout
            refine .inl ⟨?_, ?_⟩
            · show (y 7 == some true) = true
              rw [yg]; rfl
            show Gives _ _ _ (.slice p pn cap) _
            refine Gives.val ?_
            go_simp
          rcases i with _ | i
          · obtain rfl := Option.some.inj ho
            have o3 : ρ (.tmp 3) = .pointer (some ⟨x0.heap.size, 0, none⟩) := hout (.tmp 3) rfl
            have yg : y 7 = some true := (hdep ⟨7, .guard⟩ (by simp) rfl).2 52 rfl
            have ocn : ∀ v, ρ (.const v) = v := fun v => hout (.const v) rfl
            have ofn : ∀ f, ρ (.func f) = .func (.func f) #[] #[] := fun f => hout (.func f) rfl
            clear hdep hout
            refine .inl ⟨?_, ?_⟩
            · show (y 7 == some true) = true
              rw [yg]; rfl
            show Gives _ _ _ (.pointer (some ⟨x0.heap.size, 4, none⟩)) _
            refine Gives.val ?_
            go_simp
          rcases i with _ | i
          · obtain rfl := Option.some.inj ho
            have e9 : ρ (.tmp 54) = .pointer (some ⟨x0.heap.size, 4, none⟩) := (hdep ⟨9, .data⟩ (by simp) rfl).1 54 rfl
            have yg : y 7 = some true := (hdep ⟨7, .guard⟩ (by simp) rfl).2 52 rfl
            have ocn : ∀ v, ρ (.const v) = v := fun v => hout (.const v) rfl
            have ofn : ∀ f, ρ (.func f) = .func (.func f) #[] #[] := fun f => hout (.func f) rfl
            clear hdep hout
            refine .inl ⟨?_, ?_⟩
            · show (y 7 == some true) = true
              rw [yg]; rfl
            have kb := K00.out.later hBx
            have c0 := kb.c 0 _ rfl
            have c3 := kb.c 3 _ rfl
            have c4 := kb.c 4 _ rfl
            have c5 := kb.c 5 _ rfl
            have c6 := kb.c 6 _ rfl
            have cl0 := kb.lt
            show Gives _ _ _ (.agg #[.int .i64 n4, .int .i64 n5, .int .i64 n6]) _
            refine Gives.val ?_
            go_simp
          rcases i with _ | i
          · obtain rfl := Option.some.inj ho
            have e8 : ρ (.tmp 53) = .slice p pn cap := (hdep ⟨8, .data⟩ (by simp) rfl).1 53 rfl
            have e10 : ρ (.tmp 55) = .agg #[.int .i64 n4, .int .i64 n5, .int .i64 n6] := (hdep ⟨10, .data⟩ (by simp) rfl).1 55 rfl
            have yg : y 7 = some true := (hdep ⟨7, .guard⟩ (by simp) rfl).2 52 rfl
            have ocn : ∀ v, ρ (.const v) = v := fun v => hout (.const v) rfl
            have ofn : ∀ f, ρ (.func f) = .func (.func f) #[] #[] := fun f => hout (.func f) rfl
            clear hdep hout
            refine .inl ⟨?_, ?_⟩
            · show (y 7 == some true) = true
              rw [yg]; rfl
            show Gives _ _ _ (.bool true) _
            refine Gives.call (HSO.out x (HAl.out.trans (hBx.mono HAl.out.size))) ?_
            go_simp
          rcases i with _ | i
          · obtain rfl := Option.some.inj ho
            have e7 : ρ (.tmp 52) = .bool true := (hdep ⟨7, .data⟩ (by simp) rfl).1 52 rfl
            have e11 : ρ (.tmp 56) = .bool true := (hdep ⟨11, .data⟩ (by simp) rfl).1 56 rfl
            have ocn : ∀ v, ρ (.const v) = v := fun v => hout (.const v) rfl
            have ofn : ∀ f, ρ (.func f) = .func (.func f) #[] #[] := fun f => hout (.func f) rfl
            clear hdep hout
            refine .inl ⟨?_, ?_⟩
            · rfl
            show Gives _ _ _ (.bool true) _
            refine Gives.val ?_
            go_simp
          rcases i with _ | i
          · obtain rfl := Option.some.inj ho
            have e12 : ρ (.tmp 57) = .bool true := (hdep ⟨12, .data⟩ (by simp) rfl).1 57 rfl
            have ocn : ∀ v, ρ (.const v) = v := fun v => hout (.const v) rfl
            have ofn : ∀ f, ρ (.func f) = .func (.func f) #[] #[] := fun f => hout (.func f) rfl
            clear hdep hout
            refine .inl ⟨?_, ?_⟩
            · rfl
            show Gives _ _ _ (.bool true) _
            refine Gives.val ?_
            go_simp
          rcases i with _ | i
          · obtain rfl := Option.some.inj ho
            have o3 : ρ (.tmp 3) = .pointer (some ⟨x0.heap.size, 0, none⟩) := hout (.tmp 3) rfl
            have yg : y 13 = some true := (hdep ⟨13, .guard⟩ (by simp) rfl).2 58 rfl
            have ocn : ∀ v, ρ (.const v) = v := fun v => hout (.const v) rfl
            have ofn : ∀ f, ρ (.func f) = .func (.func f) #[] #[] := fun f => hout (.func f) rfl
            clear hdep hout
            refine .inl ⟨?_, ?_⟩
            · show (y 13 == some true) = true
              rw [yg]; rfl
            show Gives _ _ _ (.pointer (some ⟨x0.heap.size, 4, none⟩)) _
            refine Gives.val ?_
            go_simp
          rcases i with _ | i
          · obtain rfl := Option.some.inj ho
            have e14 : ρ (.tmp 59) = .pointer (some ⟨x0.heap.size, 4, none⟩) := (hdep ⟨14, .data⟩ (by simp) rfl).1 59 rfl
            have yg : y 13 = some true := (hdep ⟨13, .guard⟩ (by simp) rfl).2 58 rfl
            have ocn : ∀ v, ρ (.const v) = v := fun v => hout (.const v) rfl
            have ofn : ∀ f, ρ (.func f) = .func (.func f) #[] #[] := fun f => hout (.func f) rfl
            clear hdep hout
            refine .inl ⟨?_, ?_⟩
            · show (y 13 == some true) = true
              rw [yg]; rfl
            show Gives _ _ _ (.pointer (some ⟨x0.heap.size, 4, none⟩)) _
            refine Gives.val ?_
            go_simp
          rcases i with _ | i
          · obtain rfl := Option.some.inj ho
            have e15 : ρ (.tmp 60) = .pointer (some ⟨x0.heap.size, 4, none⟩) := (hdep ⟨15, .data⟩ (by simp) rfl).1 60 rfl
            have yg : y 13 = some true := (hdep ⟨13, .guard⟩ (by simp) rfl).2 58 rfl
            have ocn : ∀ v, ρ (.const v) = v := fun v => hout (.const v) rfl
            have ofn : ∀ f, ρ (.func f) = .func (.func f) #[] #[] := fun f => hout (.func f) rfl
            clear hdep hout
            refine .inl ⟨?_, ?_⟩
            · show (y 13 == some true) = true
              rw [yg]; rfl
            have kb := K00.out.later hBx
            have c0 := kb.c 0 _ rfl
            have c3 := kb.c 3 _ rfl
            have c4 := kb.c 4 _ rfl
            have c5 := kb.c 5 _ rfl
            have c6 := kb.c 6 _ rfl
            have cl0 := kb.lt
            show Gives _ _ _ (.int .i64 n4) _
            refine Gives.val ?_
            go_simp
          rcases i with _ | i
          · obtain rfl := Option.some.inj ho
            have o3 : ρ (.tmp 3) = .pointer (some ⟨x0.heap.size, 0, none⟩) := hout (.tmp 3) rfl
            have yg : y 13 = some true := (hdep ⟨13, .guard⟩ (by simp) rfl).2 58 rfl
            have ocn : ∀ v, ρ (.const v) = v := fun v => hout (.const v) rfl
            have ofn : ∀ f, ρ (.func f) = .func (.func f) #[] #[] := fun f => hout (.func f) rfl
            clear hdep hout
            refine .inl ⟨?_, ?_⟩
            · show (y 13 == some true) = true
              rw [yg]; rfl
            show Gives _ _ _ (.pointer (some ⟨x0.heap.size, 0, none⟩)) _
            refine Gives.val ?_
            go_simp
          rcases i with _ | i
          · obtain rfl := Option.some.inj ho
            have e17 : ρ (.tmp 62) = .pointer (some ⟨x0.heap.size, 0, none⟩) := (hdep ⟨17, .data⟩ (by simp) rfl).1 62 rfl
            have yg : y 13 = some true := (hdep ⟨13, .guard⟩ (by simp) rfl).2 58 rfl
            have ocn : ∀ v, ρ (.const v) = v := fun v => hout (.const v) rfl
            have ofn : ∀ f, ρ (.func f) = .func (.func f) #[] #[] := fun f => hout (.func f) rfl
            clear hdep hout
            refine .inl ⟨?_, ?_⟩
            · show (y 13 == some true) = true
              rw [yg]; rfl
            have kb := K00.out.later hBx
            have c0 := kb.c 0 _ rfl
            have c3 := kb.c 3 _ rfl
            have c4 := kb.c 4 _ rfl
            have c5 := kb.c 5 _ rfl
            have c6 := kb.c 6 _ rfl
            have cl0 := kb.lt
            show Gives _ _ _ (.slice (some ⟨g, o, none⟩) fn cs) _
            refine Gives.val ?_
            go_simp
          rcases i with _ | i
          · obtain rfl := Option.some.inj ho
            have o5 : ρ (.tmp 5) = .int .i64 ↑fn := hout (.tmp 5) rfl
            have yg : y 13 = some true := (hdep ⟨13, .guard⟩ (by simp) rfl).2 58 rfl
            have ocn : ∀ v, ρ (.const v) = v := fun v => hout (.const v) rfl
            have ofn : ∀ f, ρ (.func f) = .func (.func f) #[] #[] := fun f => hout (.func f) rfl
            clear hdep hout
            refine .inl ⟨?_, ?_⟩
            · show (y 13 == some true) = true
              rw [yg]; rfl
            show Gives _ _ _ (.int .i64 ↑fn) _
            refine Gives.val ?_
            go_simp
          rcases i with _ | i
          · obtain rfl := Option.some.inj ho
            have e19 : ρ (.tmp 64) = .int .i64 ↑fn := (hdep ⟨19, .data⟩ (by simp) rfl).1 64 rfl
            have yg : y 13 = some true := (hdep ⟨13, .guard⟩ (by simp) rfl).2 58 rfl
            have ocn : ∀ v, ρ (.const v) = v := fun v => hout (.const v) rfl
            have ofn : ∀ f, ρ (.func f) = .func (.func f) #[] #[] := fun f => hout (.func f) rfl
            clear hdep hout
            refine .inl ⟨?_, ?_⟩
            · show (y 13 == some true) = true
              rw [yg]; rfl
            show Gives _ _ _ (.int .i64 m) _
            refine Gives.val ?_
            (first | (go_simp; done) | (go_simp; exact IntWalk.i64_in _ (by omega)) | (go_simp; omega))
          rcases i with _ | i
          · obtain rfl := Option.some.inj ho
            have e18 : ρ (.tmp 63) = .slice (some ⟨g, o, none⟩) fn cs := (hdep ⟨18, .data⟩ (by simp) rfl).1 63 rfl
            have e20 : ρ (.tmp 65) = .int .i64 m := (hdep ⟨20, .data⟩ (by simp) rfl).1 65 rfl
            have yg : y 13 = some true := (hdep ⟨13, .guard⟩ (by simp) rfl).2 58 rfl
            have ocn : ∀ v, ρ (.const v) = v := fun v => hout (.const v) rfl
            have ofn : ∀ f, ρ (.func f) = .func (.func f) #[] #[] := fun f => hout (.func f) rfl
            clear hdep hout
            refine .inl ⟨?_, ?_⟩
            · show (y 13 == some true) = true
              rw [yg]; rfl
            show Gives _ _ _ (.pointer (some ⟨g, o + m * 6, none⟩)) _
            refine Gives.val ?_
            go_simp
          rcases i with _ | i
          · obtain rfl := Option.some.inj ho
            have e21 : ρ (.tmp 66) = .pointer (some ⟨g, o + m * 6, none⟩) := (hdep ⟨21, .data⟩ (by simp) rfl).1 66 rfl
            have yg : y 13 = some true := (hdep ⟨13, .guard⟩ (by simp) rfl).2 58 rfl
            have ocn : ∀ v, ρ (.const v) = v := fun v => hout (.const v) rfl
            have ofn : ∀ f, ρ (.func f) = .func (.func f) #[] #[] := fun f => hout (.func f) rfl
            clear hdep hout
            refine .inl ⟨?_, ?_⟩
            · show (y 13 == some true) = true
              rw [yg]; rfl
            show Gives _ _ _ (.pointer (some ⟨g, o + m * 6, none⟩)) _
            refine Gives.val ?_
            go_simp
          rcases i with _ | i
          · obtain rfl := Option.some.inj ho
            have e22 : ρ (.tmp 67) = .pointer (some ⟨g, o + m * 6, none⟩) := (hdep ⟨22, .data⟩ (by simp) rfl).1 67 rfl
            have yg : y 13 = some true := (hdep ⟨13, .guard⟩ (by simp) rfl).2 58 rfl
            have ocn : ∀ v, ρ (.const v) = v := fun v => hout (.const v) rfl
            have ofn : ∀ f, ρ (.func f) = .func (.func f) #[] #[] := fun f => hout (.func f) rfl
            clear hdep hout
            refine .inl ⟨?_, ?_⟩
            · show (y 13 == some true) = true
              rw [yg]; rfl
            have hbz := HAl.out.trans (hBx.mono HAl.out.size)
            have u0 := (hbz.cell (p := ⟨g, o + m * 6, none⟩) hgx).trans t0
            have u2 := (hbz.cell (p := ⟨g, o + m * 6 + 2, none⟩) hgx).trans t2
            show Gives _ _ _ (.int .i64 (topF F).p) _
            refine Gives.val ?_
            go_simp
          rcases i with _ | i
          · obtain rfl := Option.some.inj ho
            have e16 : ρ (.tmp 61) = .int .i64 n4 := (hdep ⟨16, .data⟩ (by simp) rfl).1 61 rfl
            have e23 : ρ (.tmp 68) = .int .i64 (topF F).p := (hdep ⟨23, .data⟩ (by simp) rfl).1 68 rfl
            have yg : y 13 = some true := (hdep ⟨13, .guard⟩ (by simp) rfl).2 58 rfl
            have ocn : ∀ v, ρ (.const v) = v := fun v => hout (.const v) rfl
            have ofn : ∀ f, ρ (.func f) = .func (.func f) #[] #[] := fun f => hout (.func f) rfl
            clear hdep hout
            refine .inl ⟨?_, ?_⟩
            · show (y 13 == some true) = true
              rw [yg]; rfl
            show Gives _ _ _ (.bool true) _
            refine Gives.val ?_
            go_simp
          rcases i with _ | i
          · obtain rfl := Option.some.inj ho
            have e13 : ρ (.tmp 58) = .bool true := (hdep ⟨13, .data⟩ (by simp) rfl).1 58 rfl
            have e24 : ρ (.tmp 69) = .bool true := (hdep ⟨24, .data⟩ (by simp) rfl).1 69 rfl
            have ocn : ∀ v, ρ (.const v) = v := fun v => hout (.const v) rfl
            have ofn : ∀ f, ρ (.func f) = .func (.func f) #[] #[] := fun f => hout (.func f) rfl
            clear hdep hout
            refine .inl ⟨?_, ?_⟩
            · rfl
            show Gives _ _ _ (.bool true) _
            refine Gives.val ?_
            go_simp
          rcases i with _ | i
          · obtain rfl := Option.some.inj ho
            have e25 : ρ (.tmp 70) = .bool true := (hdep ⟨25, .data⟩ (by simp) rfl).1 70 rfl
            have ocn : ∀ v, ρ (.const v) = v := fun v => hout (.const v) rfl
            have ofn : ∀ f, ρ (.func f) = .func (.func f) #[] #[] := fun f => hout (.func f) rfl
            clear hdep hout
            refine .inl ⟨?_, ?_⟩
            · rfl
            show Gives _ _ _ (.bool true) _
            refine Gives.val ?_
            go_simp
          rcases i with _ | i
          · obtain rfl := Option.some.inj ho
            have o3 : ρ (.tmp 3) = .pointer (some ⟨x0.heap.size, 0, none⟩) := hout (.tmp 3) rfl
            have yg : y 26 = some true := (hdep ⟨26, .guard⟩ (by simp) rfl).2 71 rfl
            have ocn : ∀ v, ρ (.const v) = v := fun v => hout (.const v) rfl
            have ofn : ∀ f, ρ (.func f) = .func (.func f) #[] #[] := fun f => hout (.func f) rfl
            clear hdep hout
            refine .inl ⟨?_, ?_⟩
            · show (y 26 == some true) = true
              rw [yg]; rfl
            show Gives _ _ _ (.pointer (some ⟨x0.heap.size, 4, none⟩)) _
            refine Gives.val ?_
            go_simp
          rcases i with _ | i
          · obtain rfl := Option.some.inj ho
            have e27 : ρ (.tmp 72) = .pointer (some ⟨x0.heap.size, 4, none⟩) := (hdep ⟨27, .data⟩ (by simp) rfl).1 72 rfl
            have yg : y 26 = some true := (hdep ⟨26, .guard⟩ (by simp) rfl).2 71 rfl
            have ocn : ∀ v, ρ (.const v) = v := fun v => hout (.const v) rfl
            have ofn : ∀ f, ρ (.func f) = .func (.func f) #[] #[] := fun f => hout (.func f) rfl
            clear hdep hout
            refine .inl ⟨?_, ?_⟩
            · show (y 26 == some true) = true
              rw [yg]; rfl
            show Gives _ _ _ (.pointer (some ⟨x0.heap.size, 5, none⟩)) _
            refine Gives.val ?_
            go_simp
          rcases i with _ | i
          · obtain rfl := Option.some.inj ho
            have e28 : ρ (.tmp 73) = .pointer (some ⟨x0.heap.size, 5, none⟩) := (hdep ⟨28, .data⟩ (by simp) rfl).1 73 rfl
            have yg : y 26 = some true := (hdep ⟨26, .guard⟩ (by simp) rfl).2 71 rfl
            have ocn : ∀ v, ρ (.const v) = v := fun v => hout (.const v) rfl
            have ofn : ∀ f, ρ (.func f) = .func (.func f) #[] #[] := fun f => hout (.func f) rfl
            clear hdep hout
            refine .inl ⟨?_, ?_⟩
            · show (y 26 == some true) = true
              rw [yg]; rfl
            have kb := K00.out.later hBx
            have c0 := kb.c 0 _ rfl
            have c3 := kb.c 3 _ rfl
            have c4 := kb.c 4 _ rfl
            have c5 := kb.c 5 _ rfl
            have c6 := kb.c 6 _ rfl
            have cl0 := kb.lt
            show Gives _ _ _ (.int .i64 n5) _
            refine Gives.val ?_
            go_simp
          rcases i with _ | i
          · obtain rfl := Option.some.inj ho
            have o3 : ρ (.tmp 3) = .pointer (some ⟨x0.heap.size, 0, none⟩) := hout (.tmp 3) rfl
            have yg : y 26 = some true := (hdep ⟨26, .guard⟩ (by simp) rfl).2 71 rfl
            have ocn : ∀ v, ρ (.const v) = v := fun v => hout (.const v) rfl
            have ofn : ∀ f, ρ (.func f) = .func (.func f) #[] #[] := fun f => hout (.func f) rfl
            clear hdep hout
            refine .inl ⟨?_, ?_⟩
            · show (y 26 == some true) = true
              rw [yg]; rfl
            show Gives _ _ _ (.pointer (some ⟨x0.heap.size, 0, none⟩)) _
            refine Gives.val ?_
            go_simp
          rcases i with _ | i
          · obtain rfl := Option.some.inj ho
            have e30 : ρ (.tmp 75) = .pointer (some ⟨x0.heap.size, 0, none⟩) := (hdep ⟨30, .data⟩ (by simp) rfl).1 75 rfl
            have yg : y 26 = some true := (hdep ⟨26, .guard⟩ (by simp) rfl).2 71 rfl
            have ocn : ∀ v, ρ (.const v) = v := fun v => hout (.const v) rfl
            have ofn : ∀ f, ρ (.func f) = .func (.func f) #[] #[] := fun f => hout (.func f) rfl
            clear hdep hout
            refine .inl ⟨?_, ?_⟩
            · show (y 26 == some true) = true
              rw [yg]; rfl
            have kb := K00.out.later hBx
            have c0 := kb.c 0 _ rfl
            have c3 := kb.c 3 _ rfl
            have c4 := kb.c 4 _ rfl
            have c5 := kb.c 5 _ rfl
            have c6 := kb.c 6 _ rfl
            have cl0 := kb.lt
            show Gives _ _ _ (.slice (some ⟨g, o, none⟩) fn cs) _
            refine Gives.val ?_
            go_simp
          rcases i with _ | i
          · obtain rfl := Option.some.inj ho
            have o5 : ρ (.tmp 5) = .int .i64 ↑fn := hout (.tmp 5) rfl
            have yg : y 26 = some true := (hdep ⟨26, .guard⟩ (by simp) rfl).2 71 rfl
            have ocn : ∀ v, ρ (.const v) = v := fun v => hout (.const v) rfl
            have ofn : ∀ f, ρ (.func f) = .func (.func f) #[] #[] := fun f => hout (.func f) rfl
            clear hdep hout
            refine .inl ⟨?_, ?_⟩
            · show (y 26 == some true) = true
              rw [yg]; rfl
            show Gives _ _ _ (.int .i64 ↑fn) _
            refine Gives.val ?_
            go_simp
          rcases i with _ | i
          · obtain rfl := Option.some.inj ho
            have e32 : ρ (.tmp 77) = .int .i64 ↑fn := (hdep ⟨32, .data⟩ (by simp) rfl).1 77 rfl
            have yg : y 26 = some true := (hdep ⟨26, .guard⟩ (by simp) rfl).2 71 rfl
            have ocn : ∀ v, ρ (.const v) = v := fun v => hout (.const v) rfl
            have ofn : ∀ f, ρ (.func f) = .func (.func f) #[] #[] := fun f => hout (.func f) rfl
            clear hdep hout
            refine .inl ⟨?_, ?_⟩
            · show (y 26 == some true) = true
              rw [yg]; rfl
            show Gives _ _ _ (.int .i64 m) _
            refine Gives.val ?_
            (first | (go_simp; done) | (go_simp; exact IntWalk.i64_in _ (by omega)) | (go_simp; omega))
          rcases i with _ | i
          · obtain rfl := Option.some.inj ho
            have e31 : ρ (.tmp 76) = .slice (some ⟨g, o, none⟩) fn cs := (hdep ⟨31, .data⟩ (by simp) rfl).1 76 rfl
            have e33 : ρ (.tmp 78) = .int .i64 m := (hdep ⟨33, .data⟩ (by simp) rfl).1 78 rfl
            have yg : y 26 = some true := (hdep ⟨26, .guard⟩ (by simp) rfl).2 71 rfl
            have ocn : ∀ v, ρ (.const v) = v := fun v => hout (.const v) rfl
            have ofn : ∀ f, ρ (.func f) = .func (.func f) #[] #[] := fun f => hout (.func f) rfl
            clear hdep hout
            refine .inl ⟨?_, ?_⟩
            · show (y 26 == some true) = true
              rw [yg]; rfl
            show Gives _ _ _ (.pointer (some ⟨g, o + m * 6, none⟩)) _
            refine Gives.val ?_
            go_simp
          rcases i with _ | i
          · obtain rfl := Option.some.inj ho
            have e34 : ρ (.tmp 79) = .pointer (some ⟨g, o + m * 6, none⟩) := (hdep ⟨34, .data⟩ (by simp) rfl).1 79 rfl
            have yg : y 26 = some true := (hdep ⟨26, .guard⟩ (by simp) rfl).2 71 rfl
            have ocn : ∀ v, ρ (.const v) = v := fun v => hout (.const v) rfl
            have ofn : ∀ f, ρ (.func f) = .func (.func f) #[] #[] := fun f => hout (.func f) rfl
            clear hdep hout
            refine .inl ⟨?_, ?_⟩
            · show (y 26 == some true) = true
              rw [yg]; rfl
            show Gives _ _ _ (.pointer (some ⟨g, o + m * 6 + 2, none⟩)) _
            refine Gives.val ?_
            go_simp
          rcases i with _ | i
          · obtain rfl := Option.some.inj ho
            have e35 : ρ (.tmp 80) = .pointer (some ⟨g, o + m * 6 + 2, none⟩) := (hdep ⟨35, .data⟩ (by simp) rfl).1 80 rfl
            have yg : y 26 = some true := (hdep ⟨26, .guard⟩ (by simp) rfl).2 71 rfl
            have ocn : ∀ v, ρ (.const v) = v := fun v => hout (.const v) rfl
            have ofn : ∀ f, ρ (.func f) = .func (.func f) #[] #[] := fun f => hout (.func f) rfl
            clear hdep hout
            refine .inl ⟨?_, ?_⟩
            · show (y 26 == some true) = true
              rw [yg]; rfl
            have hbz := HAl.out.trans (hBx.mono HAl.out.size)
            have u0 := (hbz.cell (p := ⟨g, o + m * 6, none⟩) hgx).trans t0
            have u2 := (hbz.cell (p := ⟨g, o + m * 6 + 2, none⟩) hgx).trans t2
            show Gives _ _ _ (.int .i64 (topF F).t) _
            refine Gives.val ?_
            go_simp
          rcases i with _ | i
          · obtain rfl := Option.some.inj ho
            have e29 : ρ (.tmp 74) = .int .i64 n5 := (hdep ⟨29, .data⟩ (by simp) rfl).1 74 rfl
            have e36 : ρ (.tmp 81) = .int .i64 (topF F).t := (hdep ⟨36, .data⟩ (by simp) rfl).1 81 rfl
            have yg : y 26 = some true := (hdep ⟨26, .guard⟩ (by simp) rfl).2 71 rfl
            have ocn : ∀ v, ρ (.const v) = v := fun v => hout (.const v) rfl
            have ofn : ∀ f, ρ (.func f) = .func (.func f) #[] #[] := fun f => hout (.func f) rfl
            clear hdep hout
            refine .inl ⟨?_, ?_⟩
            · show (y 26 == some true) = true
              rw [yg]; rfl
            show Gives _ _ _ (.bool (n5 == (topF F).t)) _
            refine Gives.val ?_
            go_simp
          rcases i with _ | i
          · obtain rfl := Option.some.inj ho
            have e26 : ρ (.tmp 71) = .bool true := (hdep ⟨26, .data⟩ (by simp) rfl).1 71 rfl
            have e37 : ρ (.tmp 82) = .bool (n5 == (topF F).t) := (hdep ⟨37, .data⟩ (by simp) rfl).1 82 rfl
            have ocn : ∀ v, ρ (.const v) = v := fun v => hout (.const v) rfl
            have ofn : ∀ f, ρ (.func f) = .func (.func f) #[] #[] := fun f => hout (.func f) rfl
            clear hdep hout
            refine .inl ⟨?_, ?_⟩
            · rfl
            show Gives _ _ _ (.bool (n5 == (topF F).t)) _
            refine Gives.val ?_
            go_simp
          rcases i with _ | i
          · obtain rfl := Option.some.inj ho
            have e38 : ρ (.tmp 83) = .bool (n5 == (topF F).t) := (hdep ⟨38, .data⟩ (by simp) rfl).1 83 rfl
            have ocn : ∀ v, ρ (.const v) = v := fun v => hout (.const v) rfl
            have ofn : ∀ f, ρ (.func f) = .func (.func f) #[] #[] := fun f => hout (.func f) rfl
            clear hdep hout
            refine .inl ⟨?_, ?_⟩
            · rfl
            show Gives _ _ _ (.bool (n5 == (topF F).t)) _
            refine Gives.val ?_
            go_simp
          cases ho
        case fin =>
          intro x hBx
          have hBf := HAl.out.trans (hBx.mono HAl.out.size)
          go_wp2_with fail
          go_ret
          exact ⟨retBool (by rw [endF_two P F 0 n4 n5 n6 (by rw [HFN.out.1]; exact hg) rfl hso]; simp [hpq]; exact beqc _ _), hBf⟩
      · have hpb : (n4 == (topF F).p) = false := by simpa using hpq
        refine wp_region_vals (by kernel_rfl) (by kernel_rfl) (by kernel_rfl) (by kernel_rfl) (fun j => [.int .i64 ↑fn, .bool true, .bool true, .pointer (some ⟨x0.heap.size, 3, none⟩), .int .i64 0, .bool true, .bool true, .bool true, .slice p pn cap, .pointer (some ⟨x0.heap.size, 4, none⟩), .agg #[.int .i64 n4, .int .i64 n5, .int .i64 n6], .bool true, .bool true, .bool true, .pointer (some ⟨x0.heap.size, 4, none⟩), .pointer (some ⟨x0.heap.size, 4, none⟩), .int .i64 n4, .pointer (some ⟨x0.heap.size, 0, none⟩), .slice (some ⟨g, o, none⟩) fn cs, .int .i64 ↑fn, .int .i64 m, .pointer (some ⟨g, o + m * 6, none⟩), .pointer (some ⟨g, o + m * 6, none⟩), .int .i64 (topF F).p, .bool false, .bool false, .bool false, undef, undef, undef, undef, undef, undef, undef, undef, undef, undef, undef, .bool false, .bool false].getD j undef) X (Below.drew (Below.refl _ _)) ?step ⟨#[.slice p pn cap, .agg #[.slice (some ⟨g, o, none⟩) fn cs, .int .i64 n1, .int .i64 2, .int .i64 0, .int .i64 n4, .int .i64 n5, .int .i64 n6], undef, .pointer (some ⟨x0.heap.size, 0, none⟩), .bool false, .int .i64 ↑fn, .pointer (some ⟨x0.heap.size + 1, 0, none⟩), .pointer (some ⟨x0.heap.size, 0, none⟩), .slice (some ⟨g, o, none⟩) fn cs, .int .i64 ↑fn, .agg #[.int .i64 0, .int .i64 0, .int .i64 0], .pointer (some ⟨x0.heap.size, 2, none⟩), .int .i64 2, .bool false, .bool false, undef, undef, undef, undef, undef, undef, undef, undef, undef, undef, undef, undef, undef, .bool false, .bool false, undef, undef, undef, undef, undef, undef, undef, undef, undef, undef, undef, undef, undef, .bool true, .bool true, .int .i64 ↑fn, .bool true, .bool true, .pointer (some ⟨x0.heap.size, 3, none⟩), .int .i64 0, .bool true, .bool true, .bool true, .slice p pn cap, .pointer (some ⟨x0.heap.size, 4, none⟩), .agg #[.int .i64 n4, .int .i64 n5, .int .i64 n6], .bool true, .bool true, .bool true, .pointer (some ⟨x0.heap.size, 4, none⟩), .pointer (some ⟨x0.heap.size, 4, none⟩), .int .i64 n4, .pointer (some ⟨x0.heap.size, 0, none⟩), .slice (some ⟨g, o, none⟩) fn cs, .int .i64 ↑fn, .int .i64 m, .pointer (some ⟨g, o + m * 6, none⟩), .pointer (some ⟨g, o + m * 6, none⟩), .int .i64 (topF F).p, .bool false, .bool false, .bool false, undef, undef, undef, undef, undef, undef, undef, undef, undef, undef, undef, .bool false, undef, undef, undef, undef, undef, undef, undef, undef, undef, undef, undef, undef, undef, undef, undef], []⟩ (by kernel_rfl) ?fin
        case step =>
          intro i o ho ρ y x hBx hdep hout
          rcases i with _ | i
          · obtain rfl := Option.some.inj ho
            have o5 : ρ (.tmp 5) = .int .i64 ↑fn := hout (.tmp 5) rfl
            have ocn : ∀ v, ρ (.const v) = v := fun v => hout (.const v) rfl
            have ofn : ∀ f, ρ (.func f) = .func (.func f) #[] #[] := fun f => hout (.func f) rfl
            clear hdep hout
            refine .inl ⟨?_, ?_⟩
            · rfl
            show Gives _ _ _ (.int .i64 ↑fn) _
            refine Gives.val ?_
            go_simp
          rcases i with _ | i
          · obtain rfl := Option.some.inj ho
            have e0 : ρ (.tmp 45) = .int .i64 ↑fn := (hdep ⟨0, .data⟩ (by simp) rfl).1 45 rfl
            have ocn : ∀ v, ρ (.const v) = v := fun v => hout (.const v) rfl
            have ofn : ∀ f, ρ (.func f) = .func (.func f) #[] #[] := fun f => hout (.func f) rfl
            clear hdep hout
            refine .inl ⟨?_, ?_⟩
            · rfl
            show Gives _ _ _ (.bool true) _
            refine Gives.val ?_
            go_simp
          rcases i with _ | i
          · obtain rfl := Option.some.inj ho
            have e1 : ρ (.tmp 46) = .bool true := (hdep ⟨1, .data⟩ (by simp) rfl).1 46 rfl
            have ocn : ∀ v, ρ (.const v) = v := fun v => hout (.const v) rfl
            have ofn : ∀ f, ρ (.func f) = .func (.func f) #[] #[] := fun f => hout (.func f) rfl
            clear hdep hout
            refine .inl ⟨?_, ?_⟩
            · rfl
            show Gives _ _ _ (.bool true) _
            refine Gives.val ?_
            go_simp
          rcases i with _ | i
          · obtain rfl := Option.some.inj ho
            have o3 : ρ (.tmp 3) = .pointer (some ⟨x0.heap.size, 0, none⟩) := hout (.tmp 3) rfl
            have yg : y 2 = some true := (hdep ⟨2, .guard⟩ (by simp) rfl).2 47 rfl
            have ocn : ∀ v, ρ (.const v) = v := fun v => hout (.const v) rfl
            have ofn : ∀ f, ρ (.func f) = .func (.func f) #[] #[] := fun f => hout (.func f) rfl
            clear hdep hout
            refine .inl ⟨?_, ?_⟩
            · show (y 2 == some true) = true
              rw [yg]; rfl
            show Gives _ _ _ (.pointer (some ⟨x0.heap.size, 3, none⟩)) _
            refine Gives.val ?_
            go_simp
          rcases i with _ | i
          · obtain rfl := Option.some.inj ho
            have e3 : ρ (.tmp 48) = .pointer (some ⟨x0.heap.size, 3, none⟩) := (hdep ⟨3, .data⟩ (by simp) rfl).1 48 rfl
            have yg : y 2 = some true := (hdep ⟨2, .guard⟩ (by simp) rfl).2 47 rfl
            have ocn : ∀ v, ρ (.const v) = v := fun v => hout (.const v) rfl
            have ofn : ∀ f, ρ (.func f) = .func (.func f) #[] #[] := fun f => hout (.func f) rfl
            clear hdep hout
            refine .inl ⟨?_, ?_⟩
            · show (y 2 == some true) = true
              rw [yg]; rfl
            have kb := K00.out.later hBx
            have c0 := kb.c 0 _ rfl
            have c3 := kb.c 3 _ rfl
            have c4 := kb.c 4 _ rfl
            have c5 := kb.c 5 _ rfl
            have c6 := kb.c 6 _ rfl
            have cl0 := kb.lt
            show Gives _ _ _ (.int .i64 0) _
            refine Gives.val ?_
            go_simp
          rcases i with _ | i
          · obtain rfl := Option.some.inj ho
            have e4 : ρ (.tmp 49) = .int .i64 0 := (hdep ⟨4, .data⟩ (by simp) rfl).1 49 rfl
            have yg : y 2 = some true := (hdep ⟨2, .guard⟩ (by simp) rfl).2 47 rfl
            have ocn : ∀ v, ρ (.const v) = v := fun v => hout (.const v) rfl
            have ofn : ∀ f, ρ (.func f) = .func (.func f) #[] #[] := fun f => hout (.func f) rfl
            clear hdep hout
            refine .inl ⟨?_, ?_⟩
            · show (y 2 == some true) = true
              rw [yg]; rfl
            show Gives _ _ _ (.bool true) _
            refine Gives.val ?_
            go_simp
          rcases i with _ | i
          · obtain rfl := Option.some.inj ho
            have e2 : ρ (.tmp 47) = .bool true := (hdep ⟨2, .data⟩ (by simp) rfl).1 47 rfl
            have e5 : ρ (.tmp 50) = .bool true := (hdep ⟨5, .data⟩ (by simp) rfl).1 50 rfl
            have ocn : ∀ v, ρ (.const v) = v := fun v => hout (.const v) rfl
            have ofn : ∀ f, ρ (.func f) = .func (.func f) #[] #[] := fun f => hout (.func f) rfl
            clear hdep hout
            refine .inl ⟨?_, ?_⟩
            · rfl
            show Gives _ _ _ (.bool true) _
            refine Gives.val ?_
            go_simp
          rcases i with _ | i
          · obtain rfl := Option.some.inj ho
            have e6 : ρ (.tmp 51) = .bool true := (hdep ⟨6, .data⟩ (by simp) rfl).1 51 rfl
            have ocn : ∀ v, ρ (.const v) = v := fun v => hout (.const v) rfl
            have ofn : ∀ f, ρ (.func f) = .func (.func f) #[] #[] := fun f => hout (.func f) rfl
            clear hdep hout
            refine .inl ⟨?_, ?_⟩
            · rfl
            show Gives _ _ _ (.bool true) _
            refine Gives.val ?_
            go_simp
          rcases i with _ | i
          · obtain rfl := Option.some.inj ho
            have o0 : ρ (.tmp 0) = .slice p pn cap := hout (.tmp 0) rfl
            have yg : y 7 = some true := (hdep ⟨7, .guard⟩ (by simp) rfl).2 52 rfl
            have ocn : ∀ v, ρ (.const v) = v := fun v => hout (.const v) rfl
            have ofn : ∀ f, ρ (.func f) = .func (.func f) #[] #[] := fun f => hout (.func f) rfl
            clear hdep hout
            refine .inl ⟨?_, ?_⟩
            · show (y 7 == some true) = true
              rw [yg]; rfl
            show Gives _ _ _ (.slice p pn cap) _
            refine Gives.val ?_
            go_simp
          rcases i with _ | i
          · obtain rfl := Option.some.inj ho
            have o3 : ρ (.tmp 3) = .pointer (some ⟨x0.heap.size, 0, none⟩) := hout (.tmp 3) rfl
            have yg : y 7 = some true := (hdep ⟨7, .guard⟩ (by simp) rfl).2 52 rfl
            have ocn : ∀ v, ρ (.const v) = v := fun v => hout (.const v) rfl
            have ofn : ∀ f, ρ (.func f) = .func (.func f) #[] #[] := fun f => hout (.func f) rfl
            clear hdep hout
            refine .inl ⟨?_, ?_⟩
            · show (y 7 == some true) = true
              rw [yg]; rfl
            show Gives _ _ _ (.pointer (some ⟨x0.heap.size, 4, none⟩)) _
            refine Gives.val ?_
            go_simp
          rcases i with _ | i
          · obtain rfl := Option.some.inj ho
            have e9 : ρ (.tmp 54) = .pointer (some ⟨x0.heap.size, 4, none⟩) := (hdep ⟨9, .data⟩ (by simp) rfl).1 54 rfl
            have yg : y 7 = some true := (hdep ⟨7, .guard⟩ (by simp) rfl).2 52 rfl
            have ocn : ∀ v, ρ (.const v) = v := fun v => hout (.const v) rfl
            have ofn : ∀ f, ρ (.func f) = .func (.func f) #[] #[] := fun f => hout (.func f) rfl
            clear hdep hout
            refine .inl ⟨?_, ?_⟩
            · show (y 7 == some true) = true
              rw [yg]; rfl
            have kb := K00.out.later hBx
            have c0 := kb.c 0 _ rfl
            have c3 := kb.c 3 _ rfl
            have c4 := kb.c 4 _ rfl
            have c5 := kb.c 5 _ rfl
            have c6 := kb.c 6 _ rfl
            have cl0 := kb.lt
            show Gives _ _ _ (.agg #[.int .i64 n4, .int .i64 n5, .int .i64 n6]) _
            refine Gives.val ?_
            go_simp
          rcases i with _ | i
          · obtain rfl := Option.some.inj ho
            have e8 : ρ (.tmp 53) = .slice p pn cap := (hdep ⟨8, .data⟩ (by simp) rfl).1 53 rfl
            have e10 : ρ (.tmp 55) = .agg #[.int .i64 n4, .int .i64 n5, .int .i64 n6] := (hdep ⟨10, .data⟩ (by simp) rfl).1 55 rfl
            have yg : y 7 = some true := (hdep ⟨7, .guard⟩ (by simp) rfl).2 52 rfl
            have ocn : ∀ v, ρ (.const v) = v := fun v => hout (.const v) rfl
            have ofn : ∀ f, ρ (.func f) = .func (.func f) #[] #[] := fun f => hout (.func f) rfl
            clear hdep hout
            refine .inl ⟨?_, ?_⟩
            · show (y 7 == some true) = true
              rw [yg]; rfl
            show Gives _ _ _ (.bool true) _
            refine Gives.call (HSO.out x (HAl.out.trans (hBx.mono HAl.out.size))) ?_
            go_simp
          rcases i with _ | i
          · obtain rfl := Option.some.inj ho
            have e7 : ρ (.tmp 52) = .bool true := (hdep ⟨7, .data⟩ (by simp) rfl).1 52 rfl
            have e11 : ρ (.tmp 56) = .bool true := (hdep ⟨11, .data⟩ (by simp) rfl).1 56 rfl
            have ocn : ∀ v, ρ (.const v) = v := fun v => hout (.const v) rfl
            have ofn : ∀ f, ρ (.func f) = .func (.func f) #[] #[] := fun f => hout (.func f) rfl
            clear hdep hout
            refine .inl ⟨?_, ?_⟩
            · rfl
            show Gives _ _ _ (.bool true) _
            refine Gives.val ?_
            go_simp
          rcases i with _ | i
          · obtain rfl := Option.some.inj ho
            have e12 : ρ (.tmp 57) = .bool true := (hdep ⟨12, .data⟩ (by simp) rfl).1 57 rfl
            have ocn : ∀ v, ρ (.const v) = v := fun v => hout (.const v) rfl
            have ofn : ∀ f, ρ (.func f) = .func (.func f) #[] #[] := fun f => hout (.func f) rfl
            clear hdep hout
            refine .inl ⟨?_, ?_⟩
            · rfl
            show Gives _ _ _ (.bool true) _
            refine Gives.val ?_
            go_simp
          rcases i with _ | i
          · obtain rfl := Option.some.inj ho
            have o3 : ρ (.tmp 3) = .pointer (some ⟨x0.heap.size, 0, none⟩) := hout (.tmp 3) rfl
            have yg : y 13 = some true := (hdep ⟨13, .guard⟩ (by simp) rfl).2 58 rfl
            have ocn : ∀ v, ρ (.const v) = v := fun v => hout (.const v) rfl
            have ofn : ∀ f, ρ (.func f) = .func (.func f) #[] #[] := fun f => hout (.func f) rfl
            clear hdep hout
            refine .inl ⟨?_, ?_⟩
            · show (y 13 == some true) = true
              rw [yg]; rfl
            show Gives _ _ _ (.pointer (some ⟨x0.heap.size, 4, none⟩)) _
            refine Gives.val ?_
            go_simp
          rcases i with _ | i
          · obtain rfl := Option.some.inj ho
            have e14 : ρ (.tmp 59) = .pointer (some ⟨x0.heap.size, 4, none⟩) := (hdep ⟨14, .data⟩ (by simp) rfl).1 59 rfl
            have yg : y 13 = some true := (hdep ⟨13, .guard⟩ (by simp) rfl).2 58 rfl
            have ocn : ∀ v, ρ (.const v) = v := fun v => hout (.const v) rfl
            have ofn : ∀ f, ρ (.func f) = .func (.func f) #[] #[] := fun f => hout (.func f) rfl
            clear hdep hout
            refine .inl ⟨?_, ?_⟩
            · show (y 13 == some true) = true
              rw [yg]; rfl
            show Gives _ _ _ (.pointer (some ⟨x0.heap.size, 4, none⟩)) _
            refine Gives.val ?_
            go_simp
          rcases i with _ | i
          · obtain rfl := Option.some.inj ho
            have e15 : ρ (.tmp 60) = .pointer (some ⟨x0.heap.size, 4, none⟩) := (hdep ⟨15, .data⟩ (by simp) rfl).1 60 rfl
            have yg : y 13 = some true := (hdep ⟨13, .guard⟩ (by simp) rfl).2 58 rfl
            have ocn : ∀ v, ρ (.const v) = v := fun v => hout (.const v) rfl
            have ofn : ∀ f, ρ (.func f) = .func (.func f) #[] #[] := fun f => hout (.func f) rfl
            clear hdep hout
            refine .inl ⟨?_, ?_⟩
            · show (y 13 == some true) = true
              rw [yg]; rfl
            have kb := K00.out.later hBx
            have c0 := kb.c 0 _ rfl
            have c3 := kb.c 3 _ rfl
            have c4 := kb.c 4 _ rfl
            have c5 := kb.c 5 _ rfl
            have c6 := kb.c 6 _ rfl
            have cl0 := kb.lt
            show Gives _ _ _ (.int .i64 n4) _
            refine Gives.val ?_
            go_simp
          rcases i with _ | i
          · obtain rfl := Option.some.inj ho
            have o3 : ρ (.tmp 3) = .pointer (some ⟨x0.heap.size, 0, none⟩) := hout (.tmp 3) rfl
            have yg : y 13 = some true := (hdep ⟨13, .guard⟩ (by simp) rfl).2 58 rfl
            have ocn : ∀ v, ρ (.const v) = v := fun v => hout (.const v) rfl
            have ofn : ∀ f, ρ (.func f) = .func (.func f) #[] #[] := fun f => hout (.func f) rfl
            clear hdep hout
            refine .inl ⟨?_, ?_⟩
            · show (y 13 == some true) = true
              rw [yg]; rfl
            show Gives _ _ _ (.pointer (some ⟨x0.heap.size, 0, none⟩)) _
            refine Gives.val ?_
            go_simp
          rcases i with _ | i
          · obtain rfl := Option.some.inj ho
            have e17 : ρ (.tmp 62) = .pointer (some ⟨x0.heap.size, 0, none⟩) := (hdep ⟨17, .data⟩ (by simp) rfl).1 62 rfl
            have yg : y 13 = some true := (hdep ⟨13, .guard⟩ (by simp) rfl).2 58 rfl
            have ocn : ∀ v, ρ (.const v) = v := fun v => hout (.const v) rfl
            have ofn : ∀ f, ρ (.func f) = .func (.func f) #[] #[] := fun f => hout (.func f) rfl
            clear hdep hout
            refine .inl ⟨?_, ?_⟩
            · show (y 13 == some true) = true
              rw [yg]; rfl
            have kb := K00.out.later hBx
            have c0 := kb.c 0 _ rfl
            have c3 := kb.c 3 _ rfl
            have c4 := kb.c 4 _ rfl
            have c5 := kb.c 5 _ rfl
            have c6 := kb.c 6 _ rfl
            have cl0 := kb.lt
            show Gives _ _ _ (.slice (some ⟨g, o, none⟩) fn cs) _
            refine Gives.val ?_
            go_simp
          rcases i with _ | i
          · obtain rfl := Option.some.inj ho
            have o5 : ρ (.tmp 5) = .int .i64 ↑fn := hout (.tmp 5) rfl
            have yg : y 13 = some true := (hdep ⟨13, .guard⟩ (by simp) rfl).2 58 rfl
            have ocn : ∀ v, ρ (.const v) = v := fun v => hout (.const v) rfl
            have ofn : ∀ f, ρ (.func f) = .func (.func f) #[] #[] := fun f => hout (.func f) rfl
            clear hdep hout
            refine .inl ⟨?_, ?_⟩
            · show (y 13 == some true) = true
              rw [yg]; rfl
            show Gives _ _ _ (.int .i64 ↑fn) _
            refine Gives.val ?_
            go_simp
          rcases i with _ | i
          · obtain rfl := Option.some.inj ho
            have e19 : ρ (.tmp 64) = .int .i64 ↑fn := (hdep ⟨19, .data⟩ (by simp) rfl).1 64 rfl
            have yg : y 13 = some true := (hdep ⟨13, .guard⟩ (by simp) rfl).2 58 rfl
            have ocn : ∀ v, ρ (.const v) = v := fun v => hout (.const v) rfl
            have ofn : ∀ f, ρ (.func f) = .func (.func f) #[] #[] := fun f => hout (.func f) rfl
            clear hdep hout
            refine .inl ⟨?_, ?_⟩
            · show (y 13 == some true) = true
              rw [yg]; rfl
            show Gives _ _ _ (.int .i64 m) _
            refine Gives.val ?_
            (first | (go_simp; done) | (go_simp; exact IntWalk.i64_in _ (by omega)) | (go_simp; omega))
          rcases i with _ | i
          · obtain rfl := Option.some.inj ho
            have e18 : ρ (.tmp 63) = .slice (some ⟨g, o, none⟩) fn cs := (hdep ⟨18, .data⟩ (by simp) rfl).1 63 rfl
            have e20 : ρ (.tmp 65) = .int .i64 m := (hdep ⟨20, .data⟩ (by simp) rfl).1 65 rfl
            have yg : y 13 = some true := (hdep ⟨13, .guard⟩ (by simp) rfl).2 58 rfl
            have ocn : ∀ v, ρ (.const v) = v := fun v => hout (.const v) rfl
            have ofn : ∀ f, ρ (.func f) = .func (.func f) #[] #[] := fun f => hout (.func f) rfl
            clear hdep hout
            refine .inl ⟨?_, ?_⟩
            · show (y 13 == some true) = true
              rw [yg]; rfl
            show Gives _ _ _ (.pointer (some ⟨g, o + m * 6, none⟩)) _
            refine Gives.val ?_
            go_simp
          rcases i with _ | i
          · obtain rfl := Option.some.inj ho
            have e21 : ρ (.tmp 66) = .pointer (some ⟨g, o + m * 6, none⟩) := (hdep ⟨21, .data⟩ (by simp) rfl).1 66 rfl
            have yg : y 13 = some true := (hdep ⟨13, .guard⟩ (by simp) rfl).2 58 rfl
            have ocn : ∀ v, ρ (.const v) = v := fun v => hout (.const v) rfl
            have ofn : ∀ f, ρ (.func f) = .func (.func f) #[] #[] := fun f => hout (.func f) rfl
            clear hdep hout
            refine .inl ⟨?_, ?_⟩
            · show (y 13 == some true) = true
              rw [yg]; rfl
            show Gives _ _ _ (.pointer (some ⟨g, o + m * 6, none⟩)) _
            refine Gives.val ?_
            go_simp
          rcases i with _ | i
          · obtain rfl := Option.some.inj ho
            have e22 : ρ (.tmp 67) = .pointer (some ⟨g, o + m * 6, none⟩) := (hdep ⟨22, .data⟩ (by simp) rfl).1 67 rfl
            have yg : y 13 = some true := (hdep ⟨13, .guard⟩ (by simp) rfl).2 58 rfl
            have ocn : ∀ v, ρ (.const v) = v := fun v => hout (.const v) rfl
            have ofn : ∀ f, ρ (.func f) = .func (.func f) #[] #[] := fun f => hout (.func f) rfl
            clear hdep hout
            refine .inl ⟨?_, ?_⟩
            · show (y 13 == some true) = true
              rw [yg]; rfl
            have hbz := HAl.out.trans (hBx.mono HAl.out.size)
            have u0 := (hbz.cell (p := ⟨g, o + m * 6, none⟩) hgx).trans t0
            have u2 := (hbz.cell (p := ⟨g, o + m * 6 + 2, none⟩) hgx).trans t2
            show Gives _ _ _ (.int .i64 (topF F).p) _
            refine Gives.val ?_
            go_simp
          rcases i with _ | i
          · obtain rfl := Option.some.inj ho
            have e16 : ρ (.tmp 61) = .int .i64 n4 := (hdep ⟨16, .data⟩ (by simp) rfl).1 61 rfl
            have e23 : ρ (.tmp 68) = .int .i64 (topF F).p := (hdep ⟨23, .data⟩ (by simp) rfl).1 68 rfl
            have yg : y 13 = some true := (hdep ⟨13, .guard⟩ (by simp) rfl).2 58 rfl
            have ocn : ∀ v, ρ (.const v) = v := fun v => hout (.const v) rfl
            have ofn : ∀ f, ρ (.func f) = .func (.func f) #[] #[] := fun f => hout (.func f) rfl
            clear hdep hout
            refine .inl ⟨?_, ?_⟩
            · show (y 13 == some true) = true
              rw [yg]; rfl
            show Gives _ _ _ (.bool false) _
            refine Gives.val ?_
            go_simp
          rcases i with _ | i
          · obtain rfl := Option.some.inj ho
            have e13 : ρ (.tmp 58) = .bool true := (hdep ⟨13, .data⟩ (by simp) rfl).1 58 rfl
            have e24 : ρ (.tmp 69) = .bool false := (hdep ⟨24, .data⟩ (by simp) rfl).1 69 rfl
            have ocn : ∀ v, ρ (.const v) = v := fun v => hout (.const v) rfl
            have ofn : ∀ f, ρ (.func f) = .func (.func f) #[] #[] := fun f => hout (.func f) rfl
            clear hdep hout
            refine .inl ⟨?_, ?_⟩
            · rfl
            show Gives _ _ _ (.bool false) _
            refine Gives.val ?_
            go_simp
          rcases i with _ | i
          · obtain rfl := Option.some.inj ho
            have e25 : ρ (.tmp 70) = .bool false := (hdep ⟨25, .data⟩ (by simp) rfl).1 70 rfl
            have ocn : ∀ v, ρ (.const v) = v := fun v => hout (.const v) rfl
            have ofn : ∀ f, ρ (.func f) = .func (.func f) #[] #[] := fun f => hout (.func f) rfl
            clear hdep hout
            refine .inl ⟨?_, ?_⟩
            · rfl
            show Gives _ _ _ (.bool false) _
            refine Gives.val ?_
            go_simp
          rcases i with _ | i
          · obtain rfl := Option.some.inj ho
            have o3 : ρ (.tmp 3) = .pointer (some ⟨x0.heap.size, 0, none⟩) := hout (.tmp 3) rfl
            have yg : y 26 = some false := (hdep ⟨26, .guard⟩ (by simp) rfl).2 71 rfl
            have ocn : ∀ v, ρ (.const v) = v := fun v => hout (.const v) rfl
            have ofn : ∀ f, ρ (.func f) = .func (.func f) #[] #[] := fun f => hout (.func f) rfl
            clear hdep hout
            refine .inr ⟨?_, rfl⟩
            show (y 26 == some true) = false
            rw [yg]; rfl
          rcases i with _ | i
          · obtain rfl := Option.some.inj ho
            have e27 : ρ (.tmp 72) = undef := (hdep ⟨27, .data⟩ (by simp) rfl).1 72 rfl
            have yg : y 26 = some false := (hdep ⟨26, .guard⟩ (by simp) rfl).2 71 rfl
            have ocn : ∀ v, ρ (.const v) = v := fun v => hout (.const v) rfl
            have ofn : ∀ f, ρ (.func f) = .func (.func f) #[] #[] := fun f => hout (.func f) rfl
            clear hdep hout
            refine .inr ⟨?_, rfl⟩
            show (y 26 == some true) = false
            rw [yg]; rfl
          rcases i with _ | i
          · obtain rfl := Option.some.inj ho
            have e28 : ρ (.tmp 73) = undef := (hdep ⟨28, .data⟩ (by simp) rfl).1 73 rfl
            have yg : y 26 = some false := (hdep ⟨26, .guard⟩ (by simp) rfl).2 71 rfl
            have ocn : ∀ v, ρ (.const v) = v := fun v => hout (.const v) rfl
            have ofn : ∀ f, ρ (.func f) = .func (.func f) #[] #[] := fun f => hout (.func f) rfl
            clear hdep hout
            refine .inr ⟨?_, rfl⟩
            show (y 26 == some true) = false
            rw [yg]; rfl
          rcases i with _ | i
          · obtain rfl := Option.some.inj ho
            have o3 : ρ (.tmp 3) = .pointer (some ⟨x0.heap.size, 0, none⟩) := hout (.tmp 3) rfl
            have yg : y 26 = some false := (hdep ⟨26, .guard⟩ (by simp) rfl).2 71 rfl
            have ocn : ∀ v, ρ (.const v) = v := fun v => hout (.const v) rfl
            have ofn : ∀ f, ρ (.func f) = .func (.func f) #[] #[] := fun f => hout (.func f) rfl
            clear hdep hout
            refine .inr ⟨?_, rfl⟩
            show (y 26 == some true) = false
            rw [yg]; rfl
          rcases i with _ | i
          · obtain rfl := Option.some.inj ho
            have e30 : ρ (.tmp 75) = undef := (hdep ⟨30, .data⟩ (by simp) rfl).1 75 rfl
            have yg : y 26 = some false := (hdep ⟨26, .guard⟩ (by simp) rfl).2 71 rfl
            have ocn : ∀ v, ρ (.const v) = v := fun v => hout (.const v) rfl
            have ofn : ∀ f, ρ (.func f) = .func (.func f) #[] #[] := fun f => hout (.func f) rfl
            clear hdep hout
            refine .inr ⟨?_, rfl⟩
            show (y 26 == some true) = false
            rw [yg]; rfl
          rcases i with _ | i
          · obtain rfl := Option.some.inj ho
            have o5 : ρ (.tmp 5) = .int .i64 ↑fn := hout (.tmp 5) rfl
            have yg : y 26 = some false := (hdep ⟨26, .guard⟩ (by simp) rfl).2 71 rfl
            have ocn : ∀ v, ρ (.const v) = v := fun v => hout (.const v) rfl
            have ofn : ∀ f, ρ (.func f) = .func (.func f) #[] #[] := fun f => hout (.func f) rfl
            clear hdep hout
            refine .inr ⟨?_, rfl⟩
            show (y 26 == some true) = false
            rw [yg]; rfl
          rcases i with _ | i
          · obtain rfl := Option.some.inj ho
            have e32 : ρ (.tmp 77) = undef := (hdep ⟨32, .data⟩ (by simp) rfl).1 77 rfl
            have yg : y 26 = some false := (hdep ⟨26, .guard⟩ (by simp) rfl).2 71 rfl
            have ocn : ∀ v, ρ (.const v) = v := fun v => hout (.const v) rfl
            have ofn : ∀ f, ρ (.func f) = .func (.func f) #[] #[] := fun f => hout (.func f) rfl
            clear hdep hout
            refine .inr ⟨?_, rfl⟩
            show (y 26 == some true) = false
            rw [yg]; rfl
          rcases i with _ | i
          · obtain rfl := Option.some.inj ho
            have e31 : ρ (.tmp 76) = undef := (hdep ⟨31, .data⟩ (by simp) rfl).1 76 rfl
            have e33 : ρ (.tmp 78) = undef := (hdep ⟨33, .data⟩ (by simp) rfl).1 78 rfl
            have yg : y 26 = some false := (hdep ⟨26, .guard⟩ (by simp) rfl).2 71 rfl
            have ocn : ∀ v, ρ (.const v) = v := fun v => hout (.const v) rfl
            have ofn : ∀ f, ρ (.func f) = .func (.func f) #[] #[] := fun f => hout (.func f) rfl
            clear hdep hout
            refine .inr ⟨?_, rfl⟩
            show (y 26 == some true) = false
            rw [yg]; rfl
          rcases i with _ | i
          · obtain rfl := Option.some.inj ho
            have e34 : ρ (.tmp 79) = undef := (hdep ⟨34, .data⟩ (by simp) rfl).1 79 rfl
            have yg : y 26 = some false := (hdep ⟨26, .guard⟩ (by simp) rfl).2 71 rfl
            have ocn : ∀ v, ρ (.const v) = v := fun v => hout (.const v) rfl
            have ofn : ∀ f, ρ (.func f) = .func (.func f) #[] #[] := fun f => hout (.func f) rfl
            clear hdep hout
            refine .inr ⟨?_, rfl⟩
            show (y 26 == some true) = false
            rw [yg]; rfl
          rcases i with _ | i
          · obtain rfl := Option.some.inj ho
            have e35 : ρ (.tmp 80) = undef := (hdep ⟨35, .data⟩ (by simp) rfl).1 80 rfl
            have yg : y 26 = some false := (hdep ⟨26, .guard⟩ (by simp) rfl).2 71 rfl
            have ocn : ∀ v, ρ (.const v) = v := fun v => hout (.const v) rfl
            have ofn : ∀ f, ρ (.func f) = .func (.func f) #[] #[] := fun f => hout (.func f) rfl
            clear hdep hout
            refine .inr ⟨?_, rfl⟩
            show (y 26 == some true) = false
            rw [yg]; rfl
          rcases i with _ | i
          · obtain rfl := Option.some.inj ho
            have e29 : ρ (.tmp 74) = undef := (hdep ⟨29, .data⟩ (by simp) rfl).1 74 rfl
            have e36 : ρ (.tmp 81) = undef := (hdep ⟨36, .data⟩ (by simp) rfl).1 81 rfl
            have yg : y 26 = some false := (hdep ⟨26, .guard⟩ (by simp) rfl).2 71 rfl
            have ocn : ∀ v, ρ (.const v) = v := fun v => hout (.const v) rfl
            have ofn : ∀ f, ρ (.func f) = .func (.func f) #[] #[] := fun f => hout (.func f) rfl
            clear hdep hout
            refine .inr ⟨?_, rfl⟩
            show (y 26 == some true) = false
            rw [yg]; rfl
          rcases i with _ | i
          · obtain rfl := Option.some.inj ho
            have e26 : ρ (.tmp 71) = .bool false := (hdep ⟨26, .data⟩ (by simp) rfl).1 71 rfl
            have e37 : ρ (.tmp 82) = undef := (hdep ⟨37, .data⟩ (by simp) rfl).1 82 rfl
            have ocn : ∀ v, ρ (.const v) = v := fun v => hout (.const v) rfl
            have ofn : ∀ f, ρ (.func f) = .func (.func f) #[] #[] := fun f => hout (.func f) rfl
            clear hdep hout
            refine .inl ⟨?_, ?_⟩
            · rfl
            show Gives _ _ _ (.bool false) _
            refine Gives.val ?_
            go_simp
          rcases i with _ | i
          · obtain rfl := Option.some.inj ho
            have e38 : ρ (.tmp 83) = .bool false := (hdep ⟨38, .data⟩ (by simp) rfl).1 83 rfl
            have ocn : ∀ v, ρ (.const v) = v := fun v => hout (.const v) rfl
            have ofn : ∀ f, ρ (.func f) = .func (.func f) #[] #[] := fun f => hout (.func f) rfl
            clear hdep hout
            refine .inl ⟨?_, ?_⟩
            · rfl
            show Gives _ _ _ (.bool false) _
            refine Gives.val ?_
            go_simp
          cases ho
        case fin =>
          intro x hBx
          have hBf := HAl.out.trans (hBx.mono HAl.out.size)
          go_wp2_with fail
          go_ret
          exact ⟨retBool (by rw [endF_two P F 0 n4 n5 n6 (by rw [HFN.out.1]; exact hg) rfl hso]; simp [hpq]), hBf⟩
  · by_cases e1 : n2 = 1
    · subst e1
      go_enter Try.func52, Try.ntmps52
      go_wp2_with fail
      all_goals
        go_ret
        exact ⟨retBool (by have hfl := HFN.out.1; first | (simp [endF, noSite, HFN.out.1, hg]; done) | (simp [endF, noSite, HFN.out.1, hg]; intros; omega) | (simp_all [endF, noSite]; done) | (simp_all [endF, noSite] <;> omega)), by first | exact ((Below.refl _ _).alloc (Nat.le_refl _) _).alloc (by simp) _ | go_grown⟩
    · go_enter Try.func52, Try.ntmps52
      go_wp2_with fail
      all_goals
        go_ret
        exact ⟨retBool (by have hfl := HFN.out.1; first | (simp [endF, noSite, HFN.out.1, hg, e1, e2, *]; done) | (simp [endF, noSite, HFN.out.1, hg, e1, e2, *]; intros; omega) | (simp_all [endF, noSite]; done) | (simp_all [endF, noSite] <;> omega)), by first | exact ((Below.refl _ _).alloc (Nat.le_refl _) _).alloc (by simp) _ | go_grown⟩

theorem l3EndOk_any (x0 : World) (B : Nat) (v : Value) (P : List (List I4)) (h : ProgAt x0 B v P) (hok : progOkF P = true) (s : Value) (F : List Fr) (hF : FrsAt x0 s F) (hl5 : F.length ≤ 5) (q : R6) :
    Calls Try.prog 52 #[v, aggRun s q] x0 fun e y => e = .returned (.bool (endF P F q.2.1 q.2.2.1 q.2.2.2)) ∧ Below x0.heap.size x0 y := by
  obtain ⟨n1, n2, n3, n4, n5, n6⟩ := q
  rcases Nat.eq_zero_or_pos F.length with hf | hf
  · exact l3EndOk_G0 x0 B v P h hok s F hF hl5 n1 n2 n3 n4 n5 n6 hf
  · by_cases ho : n3 = 0
    · exact l3EndOk_G2 x0 B v P h hok s F hF hl5 n1 n2 n3 n4 n5 n6 hf ho
    · exact l3EndOk_G1 x0 B v P h hok s F hF hl5 n1 n2 n3 n4 n5 n6 hf ho

end Go.Proofs.Ytbjegekfghihkaa
