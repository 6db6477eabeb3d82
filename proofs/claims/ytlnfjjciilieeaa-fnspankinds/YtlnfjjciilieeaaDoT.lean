/-
  The contract of the model's SpanDo, and that both answer the same.
-/
import Derived.Test.YtlnfjjciilieeaaDoS
namespace Go.Proofs.Ytlnfjjciilieeaa
open Go.RowKit
set_option linter.unusedVariables false
set_option linter.unusedSimpArgs false

/-- the world of the model's SpanDo -/
structure DsSt (w x : World) (g q : Nat) (al ah : Int) (L : List Int) (s : Sp) : Prop where
  bel : Below w.heap.size w x
  gt : w.heap.size + 1 + 1 < g
  sa : Sp3 x w.heap.size true al ah
  sr : Sp3 x (w.heap.size + 1 + 1) false 0 0
  sg : Sp3 x g s.1 s.2.1 s.2.2
  lq : q < g
  cs : ∀ j, j < L.length → x.cell? ⟨q, j, none⟩ = some (.int .i64 (L.getD j 0))
theorem DsSt.later {w x y : World} {g q : Nat} {al ah : Int} {L : List Int} {s : Sp} (h : DsSt w x g q al ah L s) (hb : Below x.heap.size x y) : DsSt w y g q al ah L s :=
  ⟨h.bel.trans (hb.mono h.bel.size), h.gt, h.sa.later hb, h.sr.later hb, h.sg.later hb, h.lq, fun j hj => (hb.cell (p := ⟨q, j, none⟩) (Nat.lt_trans h.lq h.sg.lt)).trans (h.cs j hj)⟩
theorem DsSt.drawn {w x : World} {g q : Nat} {al ah : Int} {L : List Int} {s : Sp} (h : DsSt w x g q al ah L s) (n : Nat) : DsSt w (x.drewN n) g q al ah L s := by
  induction n with
  | zero => exact h
  | succ n ih => exact ih.later (Below.drew (Below.refl _ _))
theorem DsSt.set {w x : World} {g q : Nat} {al ah : Int} {L : List Int} {s t : Sp} (h : DsSt w x g q al ah L s) : DsSt w (((x.setCell ⟨g, 0, none⟩ (.bool t.1)).setCell ⟨g, 1, none⟩ (.int .i64 t.2.1)).setCell ⟨g, 2, none⟩ (.int .i64 t.2.2)) g q al ah L t := by
  have hg := h.gt
  have hq := h.lq
  have n0 : w.heap.size ≠ g := by omega
  have n2 : w.heap.size + 1 + 1 ≠ g := by omega
  have hb : Below g x (((x.setCell ⟨g, 0, none⟩ (.bool t.1)).setCell ⟨g, 1, none⟩ (.int .i64 t.2.1)).setCell ⟨g, 2, none⟩ (.int .i64 t.2.2)) := (((Below.refl g x).setCell (p := ⟨g, 0, none⟩) (Nat.le_refl _) _).setCell (p := ⟨g, 1, none⟩) (Nat.le_refl _) _).setCell (p := ⟨g, 2, none⟩) (Nat.le_refl _) _
  exact ⟨((h.bel.setCell (by simp; omega) _).setCell (by simp; omega) _).setCell (by simp; omega) _, hg, ((h.sa.off n0).off n0).off n0, ((h.sr.off n2).off n2).off n2, h.sg.set, hq, fun j hj => (hb.cell (p := ⟨q, j, none⟩) hq).trans (h.cs j hj)⟩

theorem DsSt.set3 {w x : World} {g q : Nat} {al ah : Int} {L : List Int} {s : Sp} {a : Bool} {l u : Int} (h : DsSt w x g q al ah L s) : DsSt w (((x.setCell ⟨g, 0, none⟩ (.bool a)).setCell ⟨g, 1, none⟩ (.int .i64 l)).setCell ⟨g, 2, none⟩ (.int .i64 u)) g q al ah L (a, l, u) := h.set (t := (a, l, u))
theorem l1Of_yes (lo hi : Int) (w : World) (h : lo ≤ hi) : Calls Try.prog 41 #[.int .i64 lo, .int .i64 hi] w fun e w' => e = .returned (.agg #[.bool true, .int .i64 lo, .int .i64 hi]) ∧ Below w.heap.size w w' := by
  refine (l1Of_any lo hi w).mono ?_
  rintro e w' ⟨hs, hb⟩
  rw [mk_yes h] at hs
  exact ⟨hs, hb⟩
theorem hull_to {T : Int → Prop} {s t : Sp} (h : Hull T s) (e : s = t) : Hull T t := e ▸ h
theorem take_getD {L : List Int} {k : Nat} (h : k < L.length) : L.take (k + 1) = L.take k ++ [L.getD k 0] := by
  rw [List.take_succ_eq_append_getElem h]; simp [List.getD, List.getElem?_eq_getElem h]

set_option maxHeartbeats 4000000 in
theorem doSp_spec_in (op al ah bl bh : Int) (w : World) (hbo : bothF true al ah true bl bh = true) (h1 : 1 ≤ op) (h5 : op ≤ 5) :
    Calls Try.prog 27 #[.int .i64 op, .agg #[.bool true, .int .i64 al, .int .i64 ah], .agg #[.bool true, .int .i64 bl, .int .i64 bh]] w fun e w' => DoRet op true al ah true bl bh w e w' := by
  have hok : okF true al ah = true ∧ okF true bl bh = true := by simp [bothF] at hbo; exact hbo
  have hin : inB op 1 6 = true := by simp [inB]; omega
  have h6 : (op == 6) = false := by simp; omega
  have hbo' : Hid (bothF true al ah true bl bh = true) := hbo
  obtain ⟨_, _, ha1, ha2, haa, hb1, hb2, hbb⟩ := both_t hbo
  have HK : Hid (inB op 1 6 = true ∧ okF true al ah = true ∧ okF true bl bh = true) := ⟨hin, hok⟩
  clear hbo hok hin
  go_enter Try.func27, Try.ntmps27
  go_wp2_with fail
  refine (l6In_any _ _ _ _).mono ?_
  rintro e w' ⟨rfl, rfl⟩
  rw [HK.out.1]
  go_wp2_with fail
  refine (l1Some_any _ _ _ _).mono ?_
  rintro e w1 ⟨rfl, hr1⟩
  rw [HK.out.2.1]
  have sa1 : Sp3 w1 w.heap.size true al ah := Sp3.later ⟨by go_size, by simp [go_sem], by simp [go_sem], by simp [go_sem], by simp [go_sem], by simp [go_sem], by simp [go_sem]⟩ hr1
  have sb1 : Sp3 w1 (w.heap.size + 1) true bl bh := Sp3.later ⟨by go_size, by simp [go_sem], by simp [go_sem], by simp [go_sem], by simp [go_sem], by simp [go_sem], by simp [go_sem]⟩ hr1
  have sr1 : Sp3 w1 (w.heap.size + 1 + 1) false 0 0 := Sp3.later ⟨by go_size, by simp [go_sem], by simp [go_sem], by simp [go_sem], by simp [go_sem], by simp [go_sem], by simp [go_sem]⟩ hr1
  have hB1 : Below w.heap.size w w1 := ((((Below.refl _ _).alloc (by go_size) _).alloc (by go_size) _).alloc (by go_size) _).trans (hr1.mono (by go_size))
  clear hr1
  have sb1' := sb1
  obtain ⟨nB, cB0, cB1, cB2, fB0, fB1, fB2⟩ := sb1
  go_wp2_with fail
  refine (l1Some_any _ _ _ _).mono ?_
  rintro e w2 ⟨rfl, hr2⟩
  rw [HK.out.2.2]
  have sa2 := sa1.later hr2
  have sb2 := sb1'.later hr2
  have sr2 := sr1.later hr2
  have hB2 := hB1.trans (hr2.mono hB1.size)
  clear sa1 sb1' nB cB0 cB1 cB2 fB0 fB1 fB2 sr1 hB1 hr2
  have sb2' := sb2
  obtain ⟨nB, cB0, cB1, cB2, fB0, fB1, fB2⟩ := sb2
  go_wp2_with fail
  refine (ends_spec _ _ _ _ _).mono ?_
  rintro e w3 ⟨v, rfl, hown, hr3⟩
  have sa3 := sa2.later hr3
  have sr3 := sr2.later hr3
  have hB3 := hB2.trans (hr3.mono hB2.size)
  clear sa2 sb2' nB cB0 cB1 cB2 fB0 fB1 fB2 sr2 hB2 hr3 HK
  obtain ⟨p, cap, rfl, hm, hl⟩ := hown.look
  clear hown
  have hmem : Hid (∀ q, q ∈ endsF op bl bh → (bl ≤ q ∧ q ≤ bh) ∧ ¬ (op = 4 ∧ q = 0)) := fun q hq => by have := ends_mem.1 hq; exact ⟨⟨this.2.1, this.2.2.1⟩, this.2.2.2⟩
  have HE : Hid (∀ s, Hull (EndT op al ah (endsF op bl bh)) s → Hull (BoxT op al ah bl bh) s) := fun s hs => hull_ends h1 h5 haa hs
  generalize endsF op bl bh = L at hm hl hmem HE
  unfold maxLen at hm
  go_wp2_with fail
  have hg : w.heap.size + 1 + 1 < w3.heap.size := sr3.lt
  have hB4 : Below w.heap.size w (w3.alloc (.cells #[.bool false, .int .i64 0, .int .i64 0] 24)) := hB3.alloc hB3.size _
  have sg4 : Sp3 (w3.alloc (.cells #[.bool false, .int .i64 0, .int .i64 0] 24)) w3.heap.size false 0 0 := ⟨by go_size, by simp [go_sem], by simp [go_sem], by simp [go_sem], by simp [go_sem], by simp [go_sem], by simp [go_sem]⟩
  obtain ⟨q, hq, hst⟩ : ∃ q, (L.length = 0 ∨ p = some ⟨q, 0, none⟩) ∧ DsSt w (w3.alloc (.cells #[.bool false, .int .i64 0, .int .i64 0] 24)) w3.heap.size q al ah L noSp := by
    rcases hl with h0 | ⟨q, rfl, hq1, hq2, hc⟩
    · exact ⟨0, .inl h0, hB4, hg, sa3.alloc _, sr3.alloc _, sg4, by omega, fun j hj => by omega⟩
    · exact ⟨q, .inr rfl, hB4, hg, sa3.alloc _, sr3.alloc _, sg4, hq2, fun j hj => ((Below.alloc (Below.refl w3.heap.size w3) (Nat.le_refl _) _).cell (p := ⟨q, j, none⟩) hq2).trans (hc j hj).1⟩
  clear sa3 sr3 hB3 hB4 sg4 hl
  generalize w3.heap.size = g at hst hg ⊢
  go_loopw [9] (fun i x => ∃ (k : Nat) (s : Sp), k ≤ L.length ∧ i = .int .i64 k ∧ Hull (EndT op al ah (L.take k)) s ∧ DsSt w x g q al ah L s) (fun i _ => L.length - (intOf i).toNat)
  case atStart => exact ⟨0, noSp, by omega, rfl, Hull.empty (by simpa using end_nil op al ah), hst⟩
  case round =>
    clear hst
    obtain ⟨k, s, hk, rfl, hH, hS⟩ := hrel
    have hS0 := hS
    obtain ⟨hB, hgt, ⟨nA, cA0, cA1, cA2, fA0, fA1, fA2⟩, ⟨nR, cR0, cR1, cR2, fR0, fR1, fR2⟩, ⟨nG, cG0, cG1, cG2, fG0, fG1, fG2⟩, hqg, hcs⟩ := hS
    by_cases hlt : k < L.length
    · rcases hq with h0 | rfl
      · omega
      have cq := hcs k hlt
      have hT : Hid (L.take (k + 1) = L.take k ++ [L.getD k 0]) := take_getD hlt
      obtain ⟨⟨hq1, hq2⟩, hq3⟩ := hmem.out (L.getD k 0) (by rw [List.getD, List.getElem?_eq_getElem hlt]; simp)
      generalize hn : L.getD k 0 = n at cq hT hq1 hq2 hq3
      have HN : Hid (L.getD k 0 = n) := hn
      clear hn
      have hki : (k : Int) < (L.length : Int) := by omega
      have r1 : ∀ x : World, Calls Try.prog 61 #[.int .i64 op, .int .i64 al, .int .i64 n] x fun e w' => e = .returned (.int .i64 (rawF op al n)) ∧ w' = x := fun x => raw_spec op al n x (by omega) (by omega) (by omega) (by omega) hq3
      have r2 : ∀ x : World, Calls Try.prog 61 #[.int .i64 op, .int .i64 ah, .int .i64 n] x fun e w' => e = .returned (.int .i64 (rawF op ah n)) ∧ w' = x := fun x => raw_spec op ah n x (by omega) (by omega) (by omega) (by omega) hq3
      clear hq3 hcs
      have hH2 : Hull (EndT op al ah (L.take (k + 1))) (addS (addS s (rawF op al n)) (rawF op ah n)) := by
        rw [hT.out]; exact ((hH.add _).add _).congr (fun m => end_snoc op al ah _ n m)
      have hnon := hH.non
      clear hH hT
      generalize rawF op al n = X at r1 hH2
      generalize rawF op ah n = Y at r2 hH2
      go_wp2
      go_quiet ((go_at_call 61; exact Calls.quiet_of_same (r1 _)))
      have hS1 := hS0.drawn nq
      have cq1 := hS1.cs k hlt
      rw [HN.out] at cq1
      generalize wr.drewN nq = wx at hS1 cq1 ⊢
      clear hB nA cA0 cA1 cA2 fA0 fA1 fA2 nR cR0 cR1 cR2 fR0 fR1 fR2 nG cG0 cG1 cG2 fG0 fG1 fG2 cq
      obtain ⟨hB, _, ⟨nA, cA0, cA1, cA2, fA0, fA1, fA2⟩, ⟨nR, cR0, cR1, cR2, fR0, fR1, fR2⟩, ⟨nG, cG0, cG1, cG2, fG0, fG1, fG2⟩, _, hcs⟩ := id hS1
      clear hcs
      go_wp2
      go_quiet ((go_at_call 61; exact Calls.quiet_of_same (r2 _)))
      have hS2 := hS1.drawn nq
      generalize wx.drewN nq = wy at hS2 ⊢
      clear hB nA cA0 cA1 cA2 fA0 fA1 fA2 nR cR0 cR1 cR2 fR0 fR1 fR2 nG cG0 cG1 cG2 fG0 fG1 fG2 cq1 hS1 hS0
      obtain ⟨hB, _, ⟨nA, cA0, cA1, cA2, fA0, fA1, fA2⟩, ⟨nR, cR0, cR1, cR2, fR0, fR1, fR2⟩, ⟨nG, cG0, cG1, cG2, fG0, fG1, fG2⟩, _, hcs⟩ := id hS2
      clear hcs
      obtain ⟨sa, sl, su⟩ := s
      simp only at cG0 cG1 cG2 hnon
      cases sa
      · obtain ⟨rfl, rfl⟩ : sl = 0 ∧ su = 0 := by have := hnon rfl; simp [noSp] at this; exact this
        clear hnon
        go_wp2_with fail
        all_goals
          refine (l1Of_yes _ _ _ (by omega)).mono ?_
          rintro e w5 ⟨rfl, hb5⟩
          have hS5 := hS2.later hb5
          clear hS2 hb5
          clear hB nA cA0 cA1 cA2 fA0 fA1 fA2 nR cR0 cR1 cR2 fR0 fR1 fR2 nG cG0 cG1 cG2 fG0 fG1 fG2
          obtain ⟨hB, _, ⟨nA, cA0, cA1, cA2, fA0, fA1, fA2⟩, ⟨nR, cR0, cR1, cR2, fR0, fR1, fR2⟩, ⟨nG, cG0, cG1, cG2, fG0, fG1, fG2⟩, _, hcs⟩ := id hS5
          clear hcs
          go_wp2_with fail
          refine (l1Of_yes _ _ _ (by omega)).mono ?_
          rintro e w7 ⟨rfl, hb7⟩
          have hS7 := hS5.set3.later hb7
          clear hS5 hb7
          clear hB nA cA0 cA1 cA2 fA0 fA1 fA2 nR cR0 cR1 cR2 fR0 fR1 fR2 nG cG0 cG1 cG2 fG0 fG1 fG2
          obtain ⟨hB, _, ⟨nA, cA0, cA1, cA2, fA0, fA1, fA2⟩, ⟨nR, cR0, cR1, cR2, fR0, fR1, fR2⟩, ⟨nG, cG0, cG1, cG2, fG0, fG1, fG2⟩, _, hcs⟩ := id hS7
          clear hcs
          go_wp2_with fail
          go_roundw
          case rel => exact ⟨k + 1, _, by omega, by go_num, hull_to hH2 (by simp [addS]; omega), hS7.set3⟩
          case measure => simp [intOf]; omega
      · clear hnon
        go_wp2_with fail
        all_goals
          refine (l1Of_yes _ _ _ (by omega)).mono ?_
          rintro e w7 ⟨rfl, hb7⟩
          have hS7 := hS2.later hb7
          clear hS2 hb7
          clear hB nA cA0 cA1 cA2 fA0 fA1 fA2 nR cR0 cR1 cR2 fR0 fR1 fR2 nG cG0 cG1 cG2 fG0 fG1 fG2
          obtain ⟨hB, _, ⟨nA, cA0, cA1, cA2, fA0, fA1, fA2⟩, ⟨nR, cR0, cR1, cR2, fR0, fR1, fR2⟩, ⟨nG, cG0, cG1, cG2, fG0, fG1, fG2⟩, _, hcs⟩ := id hS7
          clear hcs
          go_wp2_with fail
          go_roundw
          case rel => exact ⟨k + 1, _, by omega, by go_num, hull_to hH2 (by simp [addS]; omega), hS7.set3⟩
          case measure => simp [intOf]; omega
    · have hkl : k = L.length := by omega
      have hd := DoIs.of_hull hbo'.out (HE.out s (by rw [hkl, List.take_length] at hH; exact hH))
      clear hkl hH hcs hmem HE hq
      obtain ⟨sa, sl, su⟩ := s
      simp only at cG0 cG1 cG2 hd
      have hi : ¬ (k : Int) < (L.length : Int) := by omega
      cases sa
      · rw [if_neg (by simp)] at hd
        have hD : Hid (DoIs op true al ah true bl bh (false, sl, su)) := hd
        clear hd
        go_wp2_with fail
        refine bodyPost_ret (v := .agg #[.bool false, .int .i64 sl, .int .i64 su]) (by simp [results, Try.results27, go_sem, nR, cR0, cR1, cR2]) rfl ⟨_, hD.out, RetSp.mk rfl, ?_⟩
        exact ((hB.setCell (by simp; omega) _).setCell (by simp; omega) _).setCell (by simp; omega) _
      · have w1 : ∀ n : Int, ∀ x : World, Calls Try.prog 50 #[.int .i64 n] x fun e w' => e = .returned (.bool (isW n)) ∧ w' = x := fun n x => l1Word_any n x
        cases hl : isW sl
        · rw [if_pos (by simp [hl])] at hd
          have hD : Hid (DoIs op true al ah true bl bh (true, -16, 15)) := hd
          clear hd
          go_wp2_with (first | (go_at_call 50; refine (w1 _ _).mono ?_; rintro e w' ⟨rfl, rfl⟩; first | rw [hl] | rw [hu]) | (go_at_call 41; refine (l1Of_yes _ _ _ (by omega)).mono ?_; rintro e w7 ⟨rfl, hb7⟩; obtain ⟨n7, d0, d1, d2, e0, e1, e2⟩ := hS0.sr.later hb7; have hB7 := hS0.bel.trans (hb7.mono hS0.bel.size)))
          refine bodyPost_ret (v := .agg #[.bool true, .int .i64 (-16), .int .i64 15]) (by simp [results, Try.results27, go_sem, n7, d0, d1, d2]) rfl ⟨_, hD.out, RetSp.mk rfl, ?_⟩
          exact ((hB7.setCell (by simp; omega) _).setCell (by simp; omega) _).setCell (by simp; omega) _
        · cases hu : isW su
          · rw [if_pos (by simp [hl, hu])] at hd
            have hD : Hid (DoIs op true al ah true bl bh (true, -16, 15)) := hd
            clear hd
            go_wp2_with (first | (go_at_call 50; refine (w1 _ _).mono ?_; rintro e w' ⟨rfl, rfl⟩; first | rw [hl] | rw [hu]) | (go_at_call 41; refine (l1Of_yes _ _ _ (by omega)).mono ?_; rintro e w7 ⟨rfl, hb7⟩; obtain ⟨n7, d0, d1, d2, e0, e1, e2⟩ := hS0.sr.later hb7; have hB7 := hS0.bel.trans (hb7.mono hS0.bel.size)))
            refine bodyPost_ret (v := .agg #[.bool true, .int .i64 (-16), .int .i64 15]) (by simp [results, Try.results27, go_sem, n7, d0, d1, d2]) rfl ⟨_, hD.out, RetSp.mk rfl, ?_⟩
            exact ((hB7.setCell (by simp; omega) _).setCell (by simp; omega) _).setCell (by simp; omega) _
          · rw [if_neg (by simp [hl, hu])] at hd
            have hD : Hid (DoIs op true al ah true bl bh (true, sl, su)) := hd
            clear hd
            go_wp2_with (go_at_call 50; refine (w1 _ _).mono ?_; rintro e w' ⟨rfl, rfl⟩; first | rw [hl] | rw [hu])
            refine bodyPost_ret (v := .agg #[.bool true, .int .i64 sl, .int .i64 su]) (by simp [results, Try.results27, go_sem, nR, cR0, cR1, cR2]) rfl ⟨_, hD.out, RetSp.mk rfl, ?_⟩
            exact ((hB.setCell (by simp; omega) _).setCell (by simp; omega) _).setCell (by simp; omega) _

theorem doSp_spec_out_post {op : Int} {a b : Bool} {al ah bl bh : Int} (h : bothF a al ah b bl bh = false ∨ (op < 1 ∨ 6 < op)) : DoIs op a al ah b bl bh noSp := by
  cases hb : bothF a al ah b bl bh
  · exact ⟨fun _ => rfl, fun h' => by simp [hb] at h', fun h' => by simp [hb] at h'⟩
  · have ho : op < 1 ∨ 6 < op := by simpa [hb] using h
    have := DoIs.of_hull hb (Hull.empty (fun n => box_out (al := al) (ah := ah) (bl := bl) (bh := bh) (n := n) ho))
    simpa [noSp] using this

end Go.Proofs.Ytlnfjjciilieeaa
