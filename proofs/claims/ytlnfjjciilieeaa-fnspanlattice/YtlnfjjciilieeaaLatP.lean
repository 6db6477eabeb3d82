/-
  The walk of the law FnSpanLattice.
-/
import Derived.Test.YtlnfjjciilieeaaOfP
import Derived.Test.YtlnfjjciilieeaaDrawM
import Derived.Test.YtlnfjjciilieeaaLatM
import Derived.Test.YtlnfjjciilieeaaInv3
import Derived.Deep.DeepCutAuto
namespace Go.Proofs.Ytlnfjjciilieeaa
open Go.RowKit
set_option linter.unusedVariables false
set_option linter.unusedSimpArgs false

set_option maxRecDepth 100000 in
set_option maxHeartbeats 8000000 in
theorem spanLattice_walk (a0 : Option Addr) (len0 cap0 : Nat) (z0 : List Int) (a1 : Option Addr) (len1 cap1 : Nat) (z1 : List Int) (w : World) (h0 : IsRow w a0 len0 cap0 z0) (h1 : IsRow w a1 len1 cap1 z1) :
    Calls Try.prog 4 #[.slice a0 len0 cap0, .slice a1 len1 cap1] w fun e w' => e = .returned (.bool true) ∧ Below w.heap.size w w' := by
  have hm0 := row_len h0
  have hm1 := row_len h1
  unfold maxLen at hm0 hm1
  by_cases hl0 : (1048576 : Int) < (len0 : Int)
  · clear h0 h1
    go_enter Try.func4, Try.ntmps4
    go_wp2
    go_ret
    exact ⟨rfl, by go_grown⟩
  by_cases hl1 : (1048576 : Int) < (len1 : Int)
  · clear h0 h1
    go_enter Try.func4, Try.ntmps4
    go_wp2
    go_ret
    exact ⟨rfl, by go_grown⟩
  go_enter Try.func4, Try.ntmps4
  go_wp2_with fail
  refine (drawSpanJoin_any a0 len0 cap0 z0 _ h0).mono ?_
  rintro e y1 hg
  obtain ⟨a, al, ah, b, bl, bh, rfl, _, _, _, _, _, _, _, _, hb⟩ := hg.it
  clear hg h0
  have hB := hb
  clear hb
  replace h1 := IsRow.later h1 hB
  go_wp2_with fail
  have hG : Below y1.heap.size y1 ((y1.alloc (.cells #[.bool a, .int .i64 al, .int .i64 ah] 24)).alloc (.cells #[.bool b, .int .i64 bl, .int .i64 bh] 24)) := by go_grown
  have SA : Sp3 ((y1.alloc (.cells #[.bool a, .int .i64 al, .int .i64 ah] 24)).alloc (.cells #[.bool b, .int .i64 bl, .int .i64 bh] 24)) (y1.heap.size) a al ah := ⟨by go_size, by simp [go_sem], by simp [go_sem], by simp [go_sem], by simp [go_sem], by simp [go_sem], by simp [go_sem]⟩
  have SB : Sp3 ((y1.alloc (.cells #[.bool a, .int .i64 al, .int .i64 ah] 24)).alloc (.cells #[.bool b, .int .i64 bl, .int .i64 bh] 24)) (y1.heap.size + 1) b bl bh := ⟨by go_size, by simp [go_sem], by simp [go_sem], by simp [go_sem], by simp [go_sem], by simp [go_sem], by simp [go_sem]⟩
  replace h1 := IsRow.later h1 hG
  replace hB := hB.trans (hG.mono hB.size)
  clear hG
  generalize hgen : ((y1.alloc (.cells #[.bool a, .int .i64 al, .int .i64 ah] 24)).alloc (.cells #[.bool b, .int .i64 bl, .int .i64 bh] 24)) = y2 at SA SB h1 hB ⊢
  refine (drawSpanJoin_any a1 len1 cap1 z1 _ h1).mono ?_
  rintro e y3 hg
  obtain ⟨c, cl, ch, d, dl, dh, rfl, _, _, _, _, _, _, _, _, hb⟩ := hg.it
  clear hg
  replace SA := SA.later hb
  replace SB := SB.later hb
  replace h1 := IsRow.later h1 hb
  replace hB := hB.trans (hb.mono hB.size)
  clear hb
  clear h1
  obtain ⟨j1, j2, j3, hX⟩ : ∃ j1 j2 j3, Hid (joinS (a, al, ah) (b, bl, bh) = (j1, j2, j3)) := ⟨_, _, _, rfl⟩
  obtain ⟨nA, c0A, c1A, c2A, f0A, f1A, f2A⟩ := id SA
  obtain ⟨nB, c0B, c1B, c2B, f0B, f1B, f2B⟩ := id SB
  go_wp2_with fail
  clear nA c0A c1A c2A f0A f1A f2A nB c0B c1B c2B f0B f1B f2B
  have hG : Below y3.heap.size y3 ((y3.alloc (.cells #[.bool c, .int .i64 cl, .int .i64 ch] 24)).alloc (.cells #[.bool d, .int .i64 dl, .int .i64 dh] 24)) := by go_grown
  replace SA := SA.later hG
  replace SB := SB.later hG
  have SC : Sp3 ((y3.alloc (.cells #[.bool c, .int .i64 cl, .int .i64 ch] 24)).alloc (.cells #[.bool d, .int .i64 dl, .int .i64 dh] 24)) (y3.heap.size) c cl ch := ⟨by go_size, by simp [go_sem], by simp [go_sem], by simp [go_sem], by simp [go_sem], by simp [go_sem], by simp [go_sem]⟩
  have SD : Sp3 ((y3.alloc (.cells #[.bool c, .int .i64 cl, .int .i64 ch] 24)).alloc (.cells #[.bool d, .int .i64 dl, .int .i64 dh] 24)) (y3.heap.size + 1) d dl dh := ⟨by go_size, by simp [go_sem], by simp [go_sem], by simp [go_sem], by simp [go_sem], by simp [go_sem], by simp [go_sem]⟩
  replace hB := hB.trans (hG.mono hB.size)
  clear hG
  generalize hgen : ((y3.alloc (.cells #[.bool c, .int .i64 cl, .int .i64 ch] 24)).alloc (.cells #[.bool d, .int .i64 dl, .int .i64 dh] 24)) = y4 at SA SB SC SD  hB ⊢
  refine (joinS_at hX.out _).mono ?_
  rintro e y5 ⟨rfl, hb⟩
  replace SA := SA.later hb
  replace SB := SB.later hb
  replace SC := SC.later hb
  replace SD := SD.later hb
  replace hB := hB.trans (hb.mono hB.size)
  clear hb
  obtain ⟨oa, Hoa⟩ : ∃ o, Hid (okF a al ah = o) := ⟨_, rfl⟩
  obtain ⟨ob, Hob⟩ : ∃ o, Hid (okF b bl bh = o) := ⟨_, rfl⟩
  obtain ⟨oc, Hoc⟩ : ∃ o, Hid (okF c cl ch = o) := ⟨_, rfl⟩
  obtain ⟨g2, hgg2⟩ : ∃ g, (oa && ob) = g := ⟨_, rfl⟩
  obtain ⟨g3, hgg3⟩ : ∃ g, (g2 && oc) = g := ⟨_, rfl⟩
  have HG : Hid (g3 = true → oa = true ∧ ob = true ∧ oc = true) := by intro h; rw [h] at hgg3; simp only [Bool.and_eq_true] at hgg3; obtain ⟨h3, h4⟩ := hgg3; rw [h3] at hgg2; simp only [Bool.and_eq_true] at hgg2; exact ⟨hgg2.1, hgg2.2, h4⟩
  have HE2 : Hid ((oa && ob) = g2) := hgg2
  have HE3 : Hid ((g2 && oc) = g3) := hgg3
  clear hgg2 hgg3
  go_upto_region 6 with fail
  have hG : Below y5.heap.size y5 (y5.alloc (.cells #[.bool j1, .int .i64 j2, .int .i64 j3] 24)) := by go_grown
  replace SA := SA.later hG
  replace SB := SB.later hG
  replace SC := SC.later hG
  replace SD := SD.later hG
  have SX : Sp3 (y5.alloc (.cells #[.bool j1, .int .i64 j2, .int .i64 j3] 24)) (y5.heap.size) j1 j2 j3 := ⟨by go_size, by simp [go_sem], by simp [go_sem], by simp [go_sem], by simp [go_sem], by simp [go_sem], by simp [go_sem]⟩
  replace hB := hB.trans (hG.mono hB.size)
  clear hG
  generalize hgen : (y5.alloc (.cells #[.bool j1, .int .i64 j2, .int .i64 j3] 24)) = y6 at SA SB SC SD SX  hB ⊢
  have hBo := hB
  go_cut [50] (fun s50 x => s50 = .bool (!g3) ∧ Below w.heap.size w x ∧ Sp3 x (y1.heap.size) a al ah ∧ Sp3 x (y1.heap.size + 1) b bl bh ∧ Sp3 x (y3.heap.size) c cl ch ∧ Sp3 x (y5.heap.size) j1 j2 j3)
  case first =>
    refine wp_region_vals (by kernel_rfl) (by kernel_rfl) (by kernel_rfl) (by kernel_rfl) (fun j => [.agg #[.bool j1, .int .i64 j2, .int .i64 j3], .agg #[.bool a, .int .i64 al, .int .i64 ah], .agg #[.bool b, .int .i64 bl, .int .i64 bh], .agg #[.bool j1, .int .i64 j2, .int .i64 j3], .bool false, .bool false, .agg #[.bool a, .int .i64 al, .int .i64 ah], .bool oa, .bool (!oa), .bool (!oa), .bool (!oa), bif oa then (.agg #[.bool b, .int .i64 bl, .int .i64 bh]) else undef, bif oa then (.bool ob) else undef, bif oa then (.bool (!ob)) else undef, .bool (!g2), .bool (!g2), bif g2 then (.agg #[.bool c, .int .i64 cl, .int .i64 ch]) else undef, bif g2 then (.bool oc) else undef, bif g2 then (.bool (!oc)) else undef, .bool (!g3)].getD j undef) y6 (Below.drew (Below.refl _ _)) ?step ⟨#[Value.slice a0 len0 cap0, Value.slice a1 len1 cap1, undef, undef, Value.bool false, Value.pointer (some { block := y1.heap.size, off := 0 }), Value.pointer (some { block := y1.heap.size + 1, off := 0 }), Value.pointer (some { block := y3.heap.size, off := 0 }), Value.pointer (some { block := y3.heap.size + 1, off := 0 }), Value.pointer (some { block := y5.heap.size, off := 0 }), Value.slice a0 len0 cap0, Value.int IntKind.i64 ↑len0, Value.bool false, Value.bool false, Value.slice a1 len1 cap1, Value.int IntKind.i64 ↑len1, Value.bool false, Value.bool false, Value.tuple #[Value.agg #[Value.bool a, Value.int IntKind.i64 al, Value.int IntKind.i64 ah], Value.agg #[Value.bool b, Value.int IntKind.i64 bl, Value.int IntKind.i64 bh]], Value.slice a0 len0 cap0, Value.tuple #[Value.agg #[Value.bool a, Value.int IntKind.i64 al, Value.int IntKind.i64 ah], Value.agg #[Value.bool b, Value.int IntKind.i64 bl, Value.int IntKind.i64 bh]], Value.agg #[Value.bool a, Value.int IntKind.i64 al, Value.int IntKind.i64 ah], Value.agg #[Value.bool b, Value.int IntKind.i64 bl, Value.int IntKind.i64 bh], Value.tuple #[Value.agg #[Value.bool c, Value.int IntKind.i64 cl, Value.int IntKind.i64 ch], Value.agg #[Value.bool d, Value.int IntKind.i64 dl, Value.int IntKind.i64 dh]], Value.slice a1 len1 cap1, Value.tuple #[Value.agg #[Value.bool c, Value.int IntKind.i64 cl, Value.int IntKind.i64 ch], Value.agg #[Value.bool d, Value.int IntKind.i64 dl, Value.int IntKind.i64 dh]], Value.agg #[Value.bool c, Value.int IntKind.i64 cl, Value.int IntKind.i64 ch], Value.agg #[Value.bool d, Value.int IntKind.i64 dl, Value.int IntKind.i64 dh], Value.agg #[Value.bool a, Value.int IntKind.i64 al, Value.int IntKind.i64 ah], Value.agg #[Value.bool b, Value.int IntKind.i64 bl, Value.int IntKind.i64 bh], Value.agg #[Value.bool j1, Value.int IntKind.i64 j2, Value.int IntKind.i64 j3], .agg #[.bool j1, .int .i64 j2, .int .i64 j3], .agg #[.bool a, .int .i64 al, .int .i64 ah], .agg #[.bool b, .int .i64 bl, .int .i64 bh], .agg #[.bool j1, .int .i64 j2, .int .i64 j3], .bool false, .bool false, .agg #[.bool a, .int .i64 al, .int .i64 ah], .bool oa, .bool (!oa), .bool (!oa), .bool (!oa), bif oa then (.agg #[.bool b, .int .i64 bl, .int .i64 bh]) else undef, bif oa then (.bool ob) else undef, bif oa then (.bool (!ob)) else undef, .bool (!g2), .bool (!g2), bif g2 then (.agg #[.bool c, .int .i64 cl, .int .i64 ch]) else undef, bif g2 then (.bool oc) else undef, bif g2 then (.bool (!oc)) else undef, .bool (!g3), undef, undef, undef, undef, undef, undef, undef, undef, undef, undef, undef, undef, undef, undef, undef, undef, undef, undef, undef, undef, undef, undef, undef, undef, undef, undef, undef, undef, undef, undef, undef, undef, undef, undef, undef, undef, undef, undef, undef, undef, undef, undef, undef], []⟩ (by kernel_rfl) ?fin
    case step =>
      intro i o ho ρ y x hBx hdep hout
      rcases i with _ | i
      · obtain rfl := Option.some.inj ho
        have o9 : ρ (.tmp 9) = Value.pointer (some { block := y5.heap.size, off := 0 }) := hout (.tmp 9) rfl
        have ocn : ∀ v, ρ (.const v) = v := fun v => hout (.const v) rfl
        have ofn : ∀ f, ρ (.func f) = .func (.func f) #[] #[] := fun f => hout (.func f) rfl
        clear hdep hout
        refine .inl ⟨?_, ?_⟩
        · rfl
        obtain ⟨n, c0, c1, c2, f0, f1, f2⟩ := SX.later hBx
        show Gives _ _ _ (.agg #[.bool j1, .int .i64 j2, .int .i64 j3]) _
        refine Gives.val ?_
        go_simp
      rcases i with _ | i
      · obtain rfl := Option.some.inj ho
        have o5 : ρ (.tmp 5) = Value.pointer (some { block := y1.heap.size, off := 0 }) := hout (.tmp 5) rfl
        have ocn : ∀ v, ρ (.const v) = v := fun v => hout (.const v) rfl
        have ofn : ∀ f, ρ (.func f) = .func (.func f) #[] #[] := fun f => hout (.func f) rfl
        clear hdep hout
        refine .inl ⟨?_, ?_⟩
        · rfl
        obtain ⟨n, c0, c1, c2, f0, f1, f2⟩ := SA.later hBx
        show Gives _ _ _ (.agg #[.bool a, .int .i64 al, .int .i64 ah]) _
        refine Gives.val ?_
        go_simp
      rcases i with _ | i
      · obtain rfl := Option.some.inj ho
        have o6 : ρ (.tmp 6) = Value.pointer (some { block := y1.heap.size + 1, off := 0 }) := hout (.tmp 6) rfl
        have ocn : ∀ v, ρ (.const v) = v := fun v => hout (.const v) rfl
        have ofn : ∀ f, ρ (.func f) = .func (.func f) #[] #[] := fun f => hout (.func f) rfl
        clear hdep hout
        refine .inl ⟨?_, ?_⟩
        · rfl
        obtain ⟨n, c0, c1, c2, f0, f1, f2⟩ := SB.later hBx
        show Gives _ _ _ (.agg #[.bool b, .int .i64 bl, .int .i64 bh]) _
        refine Gives.val ?_
        go_simp
      rcases i with _ | i
      · obtain rfl := Option.some.inj ho
        have e1 : ρ (.tmp 32) = .agg #[.bool a, .int .i64 al, .int .i64 ah] := (hdep ⟨1, .data⟩ (by simp) rfl).1 32 rfl
        have e2 : ρ (.tmp 33) = .agg #[.bool b, .int .i64 bl, .int .i64 bh] := (hdep ⟨2, .data⟩ (by simp) rfl).1 33 rfl
        have ocn : ∀ v, ρ (.const v) = v := fun v => hout (.const v) rfl
        have ofn : ∀ f, ρ (.func f) = .func (.func f) #[] #[] := fun f => hout (.func f) rfl
        clear hdep hout
        refine .inl ⟨?_, ?_⟩
        · rfl
        show Gives _ _ _ (.agg #[.bool j1, .int .i64 j2, .int .i64 j3]) _
        refine Gives.call (joinT_at hX.out x) ?_
        go_simp
      rcases i with _ | i
      · obtain rfl := Option.some.inj ho
        have e0 : ρ (.tmp 31) = .agg #[.bool j1, .int .i64 j2, .int .i64 j3] := (hdep ⟨0, .data⟩ (by simp) rfl).1 31 rfl
        have e3 : ρ (.tmp 34) = .agg #[.bool j1, .int .i64 j2, .int .i64 j3] := (hdep ⟨3, .data⟩ (by simp) rfl).1 34 rfl
        have ocn : ∀ v, ρ (.const v) = v := fun v => hout (.const v) rfl
        have ofn : ∀ f, ρ (.func f) = .func (.func f) #[] #[] := fun f => hout (.func f) rfl
        clear hdep hout
        refine .inl ⟨?_, ?_⟩
        · rfl
        show Gives _ _ _ (.bool false) _
        refine Gives.val ?_
        go_simp
      rcases i with _ | i
      · obtain rfl := Option.some.inj ho
        have e4 : ρ (.tmp 35) = .bool false := (hdep ⟨4, .data⟩ (by simp) rfl).1 35 rfl
        have ocn : ∀ v, ρ (.const v) = v := fun v => hout (.const v) rfl
        have ofn : ∀ f, ρ (.func f) = .func (.func f) #[] #[] := fun f => hout (.func f) rfl
        clear hdep hout
        refine .inl ⟨?_, ?_⟩
        · rfl
        show Gives _ _ _ (.bool false) _
        refine Gives.val ?_
        go_simp
      rcases i with _ | i
      · obtain rfl := Option.some.inj ho
        have o5 : ρ (.tmp 5) = Value.pointer (some { block := y1.heap.size, off := 0 }) := hout (.tmp 5) rfl
        have yg : y 5 = some false := (hdep ⟨5, .guard⟩ (by simp) rfl).2 36 rfl
        have ocn : ∀ v, ρ (.const v) = v := fun v => hout (.const v) rfl
        have ofn : ∀ f, ρ (.func f) = .func (.func f) #[] #[] := fun f => hout (.func f) rfl
        clear hdep hout
        refine .inl ⟨?_, ?_⟩
        · show (y 5 == some false) = true
          rw [yg]; rfl
        obtain ⟨n, c0, c1, c2, f0, f1, f2⟩ := SA.later hBx
        show Gives _ _ _ (.agg #[.bool a, .int .i64 al, .int .i64 ah]) _
        refine Gives.val ?_
        go_simp
      rcases i with _ | i
      · obtain rfl := Option.some.inj ho
        have e6 : ρ (.tmp 37) = .agg #[.bool a, .int .i64 al, .int .i64 ah] := (hdep ⟨6, .data⟩ (by simp) rfl).1 37 rfl
        have yg : y 5 = some false := (hdep ⟨5, .guard⟩ (by simp) rfl).2 36 rfl
        have ocn : ∀ v, ρ (.const v) = v := fun v => hout (.const v) rfl
        have ofn : ∀ f, ρ (.func f) = .func (.func f) #[] #[] := fun f => hout (.func f) rfl
        clear hdep hout
        refine .inl ⟨?_, ?_⟩
        · show (y 5 == some false) = true
          rw [yg]; rfl
        show Gives _ _ _ (.bool oa) _
        refine Gives.call (ok_at Hoa.out x) ?_
        go_simp
      rcases i with _ | i
      · obtain rfl := Option.some.inj ho
        have e7 : ρ (.tmp 38) = .bool oa := (hdep ⟨7, .data⟩ (by simp) rfl).1 38 rfl
        have yg : y 5 = some false := (hdep ⟨5, .guard⟩ (by simp) rfl).2 36 rfl
        have ocn : ∀ v, ρ (.const v) = v := fun v => hout (.const v) rfl
        have ofn : ∀ f, ρ (.func f) = .func (.func f) #[] #[] := fun f => hout (.func f) rfl
        clear hdep hout
        refine .inl ⟨?_, ?_⟩
        · show (y 5 == some false) = true
          rw [yg]; rfl
        show Gives _ _ _ (.bool (!oa)) _
        refine Gives.val ?_
        go_simp
      rcases i with _ | i
      · obtain rfl := Option.some.inj ho
        have e5 : ρ (.tmp 36) = .bool false := (hdep ⟨5, .data⟩ (by simp) rfl).1 36 rfl
        have e8 : ρ (.tmp 39) = .bool (!oa) := (hdep ⟨8, .data⟩ (by simp) rfl).1 39 rfl
        have ocn : ∀ v, ρ (.const v) = v := fun v => hout (.const v) rfl
        have ofn : ∀ f, ρ (.func f) = .func (.func f) #[] #[] := fun f => hout (.func f) rfl
        clear hdep hout
        refine .inl ⟨?_, ?_⟩
        · rfl
        show Gives _ _ _ (.bool (!oa)) _
        refine Gives.val ?_
        go_simp
      rcases i with _ | i
      · obtain rfl := Option.some.inj ho
        have e9 : ρ (.tmp 40) = .bool (!oa) := (hdep ⟨9, .data⟩ (by simp) rfl).1 40 rfl
        have ocn : ∀ v, ρ (.const v) = v := fun v => hout (.const v) rfl
        have ofn : ∀ f, ρ (.func f) = .func (.func f) #[] #[] := fun f => hout (.func f) rfl
        clear hdep hout
        refine .inl ⟨?_, ?_⟩
        · rfl
        show Gives _ _ _ (.bool (!oa)) _
        refine Gives.val ?_
        go_simp
      rcases i with _ | i
      · obtain rfl := Option.some.inj ho
        cases oa
        · have o6 : ρ (.tmp 6) = Value.pointer (some { block := y1.heap.size + 1, off := 0 }) := hout (.tmp 6) rfl
          have yg : y 10 = some (!false) := (hdep ⟨10, .guard⟩ (by simp) rfl).2 41 rfl
          have ocn : ∀ v, ρ (.const v) = v := fun v => hout (.const v) rfl
          have ofn : ∀ f, ρ (.func f) = .func (.func f) #[] #[] := fun f => hout (.func f) rfl
          clear hdep hout
          refine .inr ⟨?_, rfl⟩
          show (y 10 == some false) = false
          rw [yg]; rfl
        · have o6 : ρ (.tmp 6) = Value.pointer (some { block := y1.heap.size + 1, off := 0 }) := hout (.tmp 6) rfl
          have yg : y 10 = some (!true) := (hdep ⟨10, .guard⟩ (by simp) rfl).2 41 rfl
          have ocn : ∀ v, ρ (.const v) = v := fun v => hout (.const v) rfl
          have ofn : ∀ f, ρ (.func f) = .func (.func f) #[] #[] := fun f => hout (.func f) rfl
          clear hdep hout
          refine .inl ⟨?_, ?_⟩
          · show (y 10 == some false) = true
            rw [yg]; rfl
          obtain ⟨n, c0, c1, c2, f0, f1, f2⟩ := SB.later hBx
          show Gives _ _ _ (.agg #[.bool b, .int .i64 bl, .int .i64 bh]) _
          refine Gives.val ?_
          go_simp
      rcases i with _ | i
      · obtain rfl := Option.some.inj ho
        cases oa
        · have e11 : ρ (.tmp 42) = undef := (hdep ⟨11, .data⟩ (by simp) rfl).1 42 rfl
          have yg : y 10 = some (!false) := (hdep ⟨10, .guard⟩ (by simp) rfl).2 41 rfl
          have ocn : ∀ v, ρ (.const v) = v := fun v => hout (.const v) rfl
          have ofn : ∀ f, ρ (.func f) = .func (.func f) #[] #[] := fun f => hout (.func f) rfl
          clear hdep hout
          refine .inr ⟨?_, rfl⟩
          show (y 10 == some false) = false
          rw [yg]; rfl
        · have e11 : ρ (.tmp 42) = .agg #[.bool b, .int .i64 bl, .int .i64 bh] := (hdep ⟨11, .data⟩ (by simp) rfl).1 42 rfl
          have yg : y 10 = some (!true) := (hdep ⟨10, .guard⟩ (by simp) rfl).2 41 rfl
          have ocn : ∀ v, ρ (.const v) = v := fun v => hout (.const v) rfl
          have ofn : ∀ f, ρ (.func f) = .func (.func f) #[] #[] := fun f => hout (.func f) rfl
          clear hdep hout
          refine .inl ⟨?_, ?_⟩
          · show (y 10 == some false) = true
            rw [yg]; rfl
          show Gives _ _ _ (.bool ob) _
          refine Gives.call (ok_at Hob.out x) ?_
          go_simp
      rcases i with _ | i
      · obtain rfl := Option.some.inj ho
        cases oa
        · have e12 : ρ (.tmp 43) = undef := (hdep ⟨12, .data⟩ (by simp) rfl).1 43 rfl
          have yg : y 10 = some (!false) := (hdep ⟨10, .guard⟩ (by simp) rfl).2 41 rfl
          have ocn : ∀ v, ρ (.const v) = v := fun v => hout (.const v) rfl
          have ofn : ∀ f, ρ (.func f) = .func (.func f) #[] #[] := fun f => hout (.func f) rfl
          clear hdep hout
          refine .inr ⟨?_, rfl⟩
          show (y 10 == some false) = false
          rw [yg]; rfl
        · have e12 : ρ (.tmp 43) = .bool ob := (hdep ⟨12, .data⟩ (by simp) rfl).1 43 rfl
          have yg : y 10 = some (!true) := (hdep ⟨10, .guard⟩ (by simp) rfl).2 41 rfl
          have ocn : ∀ v, ρ (.const v) = v := fun v => hout (.const v) rfl
          have ofn : ∀ f, ρ (.func f) = .func (.func f) #[] #[] := fun f => hout (.func f) rfl
          clear hdep hout
          refine .inl ⟨?_, ?_⟩
          · show (y 10 == some false) = true
            rw [yg]; rfl
          show Gives _ _ _ (.bool (!ob)) _
          refine Gives.val ?_
          go_simp
      rcases i with _ | i
      · obtain rfl := Option.some.inj ho
        cases oa
        · obtain rfl := HE2.out
          have e10 : ρ (.tmp 41) = .bool (!false) := (hdep ⟨10, .data⟩ (by simp) rfl).1 41 rfl
          have e13 : ρ (.tmp 44) = undef := (hdep ⟨13, .data⟩ (by simp) rfl).1 44 rfl
          have ocn : ∀ v, ρ (.const v) = v := fun v => hout (.const v) rfl
          have ofn : ∀ f, ρ (.func f) = .func (.func f) #[] #[] := fun f => hout (.func f) rfl
          clear hdep hout
          refine .inl ⟨?_, ?_⟩
          · rfl
          show Gives _ _ _ (.bool (!(false && ob))) _
          refine Gives.val ?_
          go_simp
        · obtain rfl := HE2.out
          have e10 : ρ (.tmp 41) = .bool (!true) := (hdep ⟨10, .data⟩ (by simp) rfl).1 41 rfl
          have e13 : ρ (.tmp 44) = .bool (!ob) := (hdep ⟨13, .data⟩ (by simp) rfl).1 44 rfl
          have ocn : ∀ v, ρ (.const v) = v := fun v => hout (.const v) rfl
          have ofn : ∀ f, ρ (.func f) = .func (.func f) #[] #[] := fun f => hout (.func f) rfl
          clear hdep hout
          refine .inl ⟨?_, ?_⟩
          · rfl
          show Gives _ _ _ (.bool (!(true && ob))) _
          refine Gives.val ?_
          go_simp
      rcases i with _ | i
      · obtain rfl := Option.some.inj ho
        have e14 : ρ (.tmp 45) = .bool (!g2) := (hdep ⟨14, .data⟩ (by simp) rfl).1 45 rfl
        have ocn : ∀ v, ρ (.const v) = v := fun v => hout (.const v) rfl
        have ofn : ∀ f, ρ (.func f) = .func (.func f) #[] #[] := fun f => hout (.func f) rfl
        clear hdep hout
        refine .inl ⟨?_, ?_⟩
        · rfl
        show Gives _ _ _ (.bool (!g2)) _
        refine Gives.val ?_
        go_simp
      rcases i with _ | i
      · obtain rfl := Option.some.inj ho
        cases g2
        · have o7 : ρ (.tmp 7) = Value.pointer (some { block := y3.heap.size, off := 0 }) := hout (.tmp 7) rfl
          have yg : y 15 = some (!false) := (hdep ⟨15, .guard⟩ (by simp) rfl).2 46 rfl
          have ocn : ∀ v, ρ (.const v) = v := fun v => hout (.const v) rfl
          have ofn : ∀ f, ρ (.func f) = .func (.func f) #[] #[] := fun f => hout (.func f) rfl
          clear hdep hout
          refine .inr ⟨?_, rfl⟩
          show (y 15 == some false) = false
          rw [yg]; rfl
        · have o7 : ρ (.tmp 7) = Value.pointer (some { block := y3.heap.size, off := 0 }) := hout (.tmp 7) rfl
          have yg : y 15 = some (!true) := (hdep ⟨15, .guard⟩ (by simp) rfl).2 46 rfl
          have ocn : ∀ v, ρ (.const v) = v := fun v => hout (.const v) rfl
          have ofn : ∀ f, ρ (.func f) = .func (.func f) #[] #[] := fun f => hout (.func f) rfl
          clear hdep hout
          refine .inl ⟨?_, ?_⟩
          · show (y 15 == some false) = true
            rw [yg]; rfl
          obtain ⟨n, c0, c1, c2, f0, f1, f2⟩ := SC.later hBx
          show Gives _ _ _ (.agg #[.bool c, .int .i64 cl, .int .i64 ch]) _
          refine Gives.val ?_
          go_simp
      rcases i with _ | i
      · obtain rfl := Option.some.inj ho
        cases g2
        · have e16 : ρ (.tmp 47) = undef := (hdep ⟨16, .data⟩ (by simp) rfl).1 47 rfl
          have yg : y 15 = some (!false) := (hdep ⟨15, .guard⟩ (by simp) rfl).2 46 rfl
          have ocn : ∀ v, ρ (.const v) = v := fun v => hout (.const v) rfl
          have ofn : ∀ f, ρ (.func f) = .func (.func f) #[] #[] := fun f => hout (.func f) rfl
          clear hdep hout
          refine .inr ⟨?_, rfl⟩
          show (y 15 == some false) = false
          rw [yg]; rfl
        · have e16 : ρ (.tmp 47) = .agg #[.bool c, .int .i64 cl, .int .i64 ch] := (hdep ⟨16, .data⟩ (by simp) rfl).1 47 rfl
          have yg : y 15 = some (!true) := (hdep ⟨15, .guard⟩ (by simp) rfl).2 46 rfl
          have ocn : ∀ v, ρ (.const v) = v := fun v => hout (.const v) rfl
          have ofn : ∀ f, ρ (.func f) = .func (.func f) #[] #[] := fun f => hout (.func f) rfl
          clear hdep hout
          refine .inl ⟨?_, ?_⟩
          · show (y 15 == some false) = true
            rw [yg]; rfl
          show Gives _ _ _ (.bool oc) _
          refine Gives.call (ok_at Hoc.out x) ?_
          go_simp
      rcases i with _ | i
      · obtain rfl := Option.some.inj ho
        cases g2
        · have e17 : ρ (.tmp 48) = undef := (hdep ⟨17, .data⟩ (by simp) rfl).1 48 rfl
          have yg : y 15 = some (!false) := (hdep ⟨15, .guard⟩ (by simp) rfl).2 46 rfl
          have ocn : ∀ v, ρ (.const v) = v := fun v => hout (.const v) rfl
          have ofn : ∀ f, ρ (.func f) = .func (.func f) #[] #[] := fun f => hout (.func f) rfl
          clear hdep hout
          refine .inr ⟨?_, rfl⟩
          show (y 15 == some false) = false
          rw [yg]; rfl
        · have e17 : ρ (.tmp 48) = .bool oc := (hdep ⟨17, .data⟩ (by simp) rfl).1 48 rfl
          have yg : y 15 = some (!true) := (hdep ⟨15, .guard⟩ (by simp) rfl).2 46 rfl
          have ocn : ∀ v, ρ (.const v) = v := fun v => hout (.const v) rfl
          have ofn : ∀ f, ρ (.func f) = .func (.func f) #[] #[] := fun f => hout (.func f) rfl
          clear hdep hout
          refine .inl ⟨?_, ?_⟩
          · show (y 15 == some false) = true
            rw [yg]; rfl
          show Gives _ _ _ (.bool (!oc)) _
          refine Gives.val ?_
          go_simp
      rcases i with _ | i
      · obtain rfl := Option.some.inj ho
        cases g2
        · obtain rfl := HE3.out
          have e15 : ρ (.tmp 46) = .bool (!false) := (hdep ⟨15, .data⟩ (by simp) rfl).1 46 rfl
          have e18 : ρ (.tmp 49) = undef := (hdep ⟨18, .data⟩ (by simp) rfl).1 49 rfl
          have ocn : ∀ v, ρ (.const v) = v := fun v => hout (.const v) rfl
          have ofn : ∀ f, ρ (.func f) = .func (.func f) #[] #[] := fun f => hout (.func f) rfl
          clear hdep hout
          refine .inl ⟨?_, ?_⟩
          · rfl
          show Gives _ _ _ (.bool (!(false && oc))) _
          refine Gives.val ?_
          go_simp
        · obtain rfl := HE3.out
          have e15 : ρ (.tmp 46) = .bool (!true) := (hdep ⟨15, .data⟩ (by simp) rfl).1 46 rfl
          have e18 : ρ (.tmp 49) = .bool (!oc) := (hdep ⟨18, .data⟩ (by simp) rfl).1 49 rfl
          have ocn : ∀ v, ρ (.const v) = v := fun v => hout (.const v) rfl
          have ofn : ∀ f, ρ (.func f) = .func (.func f) #[] #[] := fun f => hout (.func f) rfl
          clear hdep hout
          refine .inl ⟨?_, ?_⟩
          · rfl
          show Gives _ _ _ (.bool (!(true && oc))) _
          refine Gives.val ?_
          go_simp
      cases ho
    case fin =>
      intro x hBx
      go_wp2_with fail
      go_meet
      exact ⟨rfl, hBo.trans (hBx.mono hBo.size), SA.later hBx, SB.later hBx, SC.later hBx, SX.later hBx⟩
  case rest =>
  clear SA SB SC SX hB hBo
  obtain ⟨rfl, hB, SA, SB, SC, SX⟩ := hcut
  cases g3
  · go_wp2_with fail
    refine wp_region_vals (by kernel_rfl) (by kernel_rfl) (by kernel_rfl) (by kernel_rfl) (fun j => [.agg #[.bool j1, .int .i64 j2, .int .i64 j3], .agg #[.bool a, .int .i64 al, .int .i64 ah], .agg #[.bool b, .int .i64 bl, .int .i64 bh], .agg #[.bool j1, .int .i64 j2, .int .i64 j3], .bool true, .bool true].getD j undef) wc (Below.drew (Below.refl _ _)) ?step ⟨#[Value.slice a0 len0 cap0, Value.slice a1 len1 cap1, undef, undef, .bool true, Value.pointer (some { block := y1.heap.size, off := 0 }), Value.pointer (some { block := y1.heap.size + 1, off := 0 }), Value.pointer (some { block := y3.heap.size, off := 0 }), u8, Value.pointer (some { block := y5.heap.size, off := 0 }), u10, u11, u12, u13, u14, u15, u16, u17, u18, u19, u20, u21, u22, u23, u24, u25, u26, u27, u28, u29, u30, u31, u32, u33, u34, u35, u36, u37, u38, u39, u40, u41, u42, u43, u44, u45, u46, u47, u48, u49, Value.bool !false, .agg #[.bool j1, .int .i64 j2, .int .i64 j3], .agg #[.bool a, .int .i64 al, .int .i64 ah], .agg #[.bool b, .int .i64 bl, .int .i64 bh], .agg #[.bool j1, .int .i64 j2, .int .i64 j3], .bool true, u56, u57, u58, u59, u60, u61, u62, u63, u64, u65, u66, u67, u68, u69, u70, u71, u72, u73, u74, u75, u76, u77, u78, u79, u80, u81, u82, u83, u84, u85, u86, u87, u88, u89, u90, u91, u92, u93], []⟩ (by kernel_rfl) ?fin
    case step =>
      intro i o ho ρ y x hBx hdep hout
      rcases i with _ | i
      · obtain rfl := Option.some.inj ho
        have o9 : ρ (.tmp 9) = Value.pointer (some { block := y5.heap.size, off := 0 }) := hout (.tmp 9) rfl
        have ocn : ∀ v, ρ (.const v) = v := fun v => hout (.const v) rfl
        have ofn : ∀ f, ρ (.func f) = .func (.func f) #[] #[] := fun f => hout (.func f) rfl
        clear hdep hout
        refine .inl ⟨?_, ?_⟩
        · rfl
        obtain ⟨n, c0, c1, c2, f0, f1, f2⟩ := SX.later hBx
        show Gives _ _ _ (.agg #[.bool j1, .int .i64 j2, .int .i64 j3]) _
        refine Gives.val ?_
        go_simp
      rcases i with _ | i
      · obtain rfl := Option.some.inj ho
        have o5 : ρ (.tmp 5) = Value.pointer (some { block := y1.heap.size, off := 0 }) := hout (.tmp 5) rfl
        have ocn : ∀ v, ρ (.const v) = v := fun v => hout (.const v) rfl
        have ofn : ∀ f, ρ (.func f) = .func (.func f) #[] #[] := fun f => hout (.func f) rfl
        clear hdep hout
        refine .inl ⟨?_, ?_⟩
        · rfl
        obtain ⟨n, c0, c1, c2, f0, f1, f2⟩ := SA.later hBx
        show Gives _ _ _ (.agg #[.bool a, .int .i64 al, .int .i64 ah]) _
        refine Gives.val ?_
        go_simp
      rcases i with _ | i
      · obtain rfl := Option.some.inj ho
        have o6 : ρ (.tmp 6) = Value.pointer (some { block := y1.heap.size + 1, off := 0 }) := hout (.tmp 6) rfl
        have ocn : ∀ v, ρ (.const v) = v := fun v => hout (.const v) rfl
        have ofn : ∀ f, ρ (.func f) = .func (.func f) #[] #[] := fun f => hout (.func f) rfl
        clear hdep hout
        refine .inl ⟨?_, ?_⟩
        · rfl
        obtain ⟨n, c0, c1, c2, f0, f1, f2⟩ := SB.later hBx
        show Gives _ _ _ (.agg #[.bool b, .int .i64 bl, .int .i64 bh]) _
        refine Gives.val ?_
        go_simp
      rcases i with _ | i
      · obtain rfl := Option.some.inj ho
        have e1 : ρ (.tmp 52) = .agg #[.bool a, .int .i64 al, .int .i64 ah] := (hdep ⟨1, .data⟩ (by simp) rfl).1 52 rfl
        have e2 : ρ (.tmp 53) = .agg #[.bool b, .int .i64 bl, .int .i64 bh] := (hdep ⟨2, .data⟩ (by simp) rfl).1 53 rfl
        have ocn : ∀ v, ρ (.const v) = v := fun v => hout (.const v) rfl
        have ofn : ∀ f, ρ (.func f) = .func (.func f) #[] #[] := fun f => hout (.func f) rfl
        clear hdep hout
        refine .inl ⟨?_, ?_⟩
        · rfl
        show Gives _ _ _ (.agg #[.bool j1, .int .i64 j2, .int .i64 j3]) _
        refine Gives.call (joinT_at hX.out x) ?_
        go_simp
      rcases i with _ | i
      · obtain rfl := Option.some.inj ho
        have e0 : ρ (.tmp 51) = .agg #[.bool j1, .int .i64 j2, .int .i64 j3] := (hdep ⟨0, .data⟩ (by simp) rfl).1 51 rfl
        have e3 : ρ (.tmp 54) = .agg #[.bool j1, .int .i64 j2, .int .i64 j3] := (hdep ⟨3, .data⟩ (by simp) rfl).1 54 rfl
        have ocn : ∀ v, ρ (.const v) = v := fun v => hout (.const v) rfl
        have ofn : ∀ f, ρ (.func f) = .func (.func f) #[] #[] := fun f => hout (.func f) rfl
        clear hdep hout
        refine .inl ⟨?_, ?_⟩
        · rfl
        show Gives _ _ _ (.bool true) _
        refine Gives.val ?_
        go_simp
      rcases i with _ | i
      · obtain rfl := Option.some.inj ho
        have e4 : ρ (.tmp 55) = .bool true := (hdep ⟨4, .data⟩ (by simp) rfl).1 55 rfl
        have ocn : ∀ v, ρ (.const v) = v := fun v => hout (.const v) rfl
        have ofn : ∀ f, ρ (.func f) = .func (.func f) #[] #[] := fun f => hout (.func f) rfl
        clear hdep hout
        refine .inl ⟨?_, ?_⟩
        · rfl
        show Gives _ _ _ (.bool true) _
        refine Gives.val ?_
        go_simp
      cases ho
    case fin =>
      intro x hBx
      go_wp2_with fail
      go_ret
      exact ⟨rfl, hB.trans (hBx.mono hB.size)⟩
  · obtain ⟨e0, e1, e2⟩ := HG.out rfl
    subst e0 e1 e2
    clear HG HE2 HE3
    have ka := okS_of Hoa.out
    have kb := okS_of Hob.out
    have kc := okS_of Hoc.out
    obtain ⟨m1, m2, m3, hM⟩ : ∃ m1 m2 m3, Hid (meetS (a, al, ah) (b, bl, bh) = (m1, m2, m3)) := ⟨_, _, _, rfl⟩
    obtain ⟨n1, n2, n3, hJ2⟩ : ∃ n1 n2 n3, Hid (joinS (j1, j2, j3) (c, cl, ch) = (n1, n2, n3)) := ⟨_, _, _, rfl⟩
    obtain ⟨p1, p2, p3, hJB⟩ : ∃ p1 p2 p3, Hid (joinS (b, bl, bh) (c, cl, ch) = (p1, p2, p3)) := ⟨_, _, _, rfl⟩
    obtain ⟨r1, r2, r3, hMB⟩ : ∃ r1 r2 r3, Hid (meetS (b, bl, bh) (c, cl, ch) = (r1, r2, r3)) := ⟨_, _, _, rfl⟩
    obtain ⟨q1, q2, q3, hMM⟩ : ∃ q1 q2 q3, Hid (meetS (m1, m2, m3) (c, cl, ch) = (q1, q2, q3)) := ⟨_, _, _, rfl⟩
    have HA1 : Hid (meetS (a, al, ah) (j1, j2, j3) = (a, al, ah)) := by have := absorb1 ka kb; rw [hX.out] at this; exact this
    have HA2 : Hid (joinS (a, al, ah) (m1, m2, m3) = (a, al, ah)) := by have := absorb2 ka kb; rw [hM.out] at this; exact this
    have HA3 : Hid (joinS (a, al, ah) (p1, p2, p3) = (n1, n2, n3)) := by have := joinS_assoc ka kb kc; rw [hX.out, hJB.out, hJ2.out] at this; exact this.symm
    have HA4 : Hid (meetS (a, al, ah) (r1, r2, r3) = (q1, q2, q3)) := by have := meetS_assoc ka kb kc; rw [hM.out, hMB.out, hMM.out] at this; exact this.symm
    clear ka kb kc
    go_wp2_with fail
    refine wp_region_vals (by kernel_rfl) (by kernel_rfl) (by kernel_rfl) (by kernel_rfl) (fun j => [.agg #[.bool a, .int .i64 al, .int .i64 ah], .agg #[.bool j1, .int .i64 j2, .int .i64 j3], .agg #[.bool a, .int .i64 al, .int .i64 ah], .agg #[.bool a, .int .i64 al, .int .i64 ah], .bool true, .bool true, .agg #[.bool a, .int .i64 al, .int .i64 ah], .agg #[.bool a, .int .i64 al, .int .i64 ah], .agg #[.bool b, .int .i64 bl, .int .i64 bh], .agg #[.bool m1, .int .i64 m2, .int .i64 m3], .agg #[.bool a, .int .i64 al, .int .i64 ah], .agg #[.bool a, .int .i64 al, .int .i64 ah], .bool true, .bool true, .bool true, .agg #[.bool j1, .int .i64 j2, .int .i64 j3], .agg #[.bool c, .int .i64 cl, .int .i64 ch], .agg #[.bool n1, .int .i64 n2, .int .i64 n3], .agg #[.bool a, .int .i64 al, .int .i64 ah], .agg #[.bool b, .int .i64 bl, .int .i64 bh], .agg #[.bool c, .int .i64 cl, .int .i64 ch], .agg #[.bool p1, .int .i64 p2, .int .i64 p3], .agg #[.bool n1, .int .i64 n2, .int .i64 n3], .bool true, .bool true, .bool true, .agg #[.bool a, .int .i64 al, .int .i64 ah], .agg #[.bool b, .int .i64 bl, .int .i64 bh], .agg #[.bool m1, .int .i64 m2, .int .i64 m3], .agg #[.bool c, .int .i64 cl, .int .i64 ch], .agg #[.bool q1, .int .i64 q2, .int .i64 q3], .agg #[.bool a, .int .i64 al, .int .i64 ah], .agg #[.bool b, .int .i64 bl, .int .i64 bh], .agg #[.bool c, .int .i64 cl, .int .i64 ch], .agg #[.bool r1, .int .i64 r2, .int .i64 r3], .agg #[.bool q1, .int .i64 q2, .int .i64 q3], .bool true, .bool true, .bool true].getD j undef) wc (Below.drew (Below.refl _ _)) ?step ⟨#[Value.slice a0 len0 cap0, Value.slice a1 len1 cap1, undef, undef, .bool true, Value.pointer (some { block := y1.heap.size, off := 0 }), Value.pointer (some { block := y1.heap.size + 1, off := 0 }), Value.pointer (some { block := y3.heap.size, off := 0 }), u8, Value.pointer (some { block := y5.heap.size, off := 0 }), u10, u11, u12, u13, u14, u15, u16, u17, u18, u19, u20, u21, u22, u23, u24, u25, u26, u27, u28, u29, u30, u31, u32, u33, u34, u35, u36, u37, u38, u39, u40, u41, u42, u43, u44, u45, u46, u47, u48, u49, Value.bool !true, u51, u52, u53, u54, u55, .agg #[.bool a, .int .i64 al, .int .i64 ah], .agg #[.bool j1, .int .i64 j2, .int .i64 j3], .agg #[.bool a, .int .i64 al, .int .i64 ah], .agg #[.bool a, .int .i64 al, .int .i64 ah], .bool true, .bool true, .agg #[.bool a, .int .i64 al, .int .i64 ah], .agg #[.bool a, .int .i64 al, .int .i64 ah], .agg #[.bool b, .int .i64 bl, .int .i64 bh], .agg #[.bool m1, .int .i64 m2, .int .i64 m3], .agg #[.bool a, .int .i64 al, .int .i64 ah], .agg #[.bool a, .int .i64 al, .int .i64 ah], .bool true, .bool true, .bool true, .agg #[.bool j1, .int .i64 j2, .int .i64 j3], .agg #[.bool c, .int .i64 cl, .int .i64 ch], .agg #[.bool n1, .int .i64 n2, .int .i64 n3], .agg #[.bool a, .int .i64 al, .int .i64 ah], .agg #[.bool b, .int .i64 bl, .int .i64 bh], .agg #[.bool c, .int .i64 cl, .int .i64 ch], .agg #[.bool p1, .int .i64 p2, .int .i64 p3], .agg #[.bool n1, .int .i64 n2, .int .i64 n3], .bool true, .bool true, .bool true, .agg #[.bool a, .int .i64 al, .int .i64 ah], .agg #[.bool b, .int .i64 bl, .int .i64 bh], .agg #[.bool m1, .int .i64 m2, .int .i64 m3], .agg #[.bool c, .int .i64 cl, .int .i64 ch], .agg #[.bool q1, .int .i64 q2, .int .i64 q3], .agg #[.bool a, .int .i64 al, .int .i64 ah], .agg #[.bool b, .int .i64 bl, .int .i64 bh], .agg #[.bool c, .int .i64 cl, .int .i64 ch], .agg #[.bool r1, .int .i64 r2, .int .i64 r3], .agg #[.bool q1, .int .i64 q2, .int .i64 q3], .bool true, .bool true], []⟩ (by kernel_rfl) ?fin
    case step =>
      intro i o ho ρ y x hBx hdep hout
      rcases i with _ | i
      · obtain rfl := Option.some.inj ho
        have o5 : ρ (.tmp 5) = Value.pointer (some { block := y1.heap.size, off := 0 }) := hout (.tmp 5) rfl
        have ocn : ∀ v, ρ (.const v) = v := fun v => hout (.const v) rfl
        have ofn : ∀ f, ρ (.func f) = .func (.func f) #[] #[] := fun f => hout (.func f) rfl
        clear hdep hout
        refine .inl ⟨?_, ?_⟩
        · rfl
        obtain ⟨n, c0, c1, c2, f0, f1, f2⟩ := SA.later hBx
        show Gives _ _ _ (.agg #[.bool a, .int .i64 al, .int .i64 ah]) _
        refine Gives.val ?_
        go_simp
      rcases i with _ | i
      · obtain rfl := Option.some.inj ho
        have o9 : ρ (.tmp 9) = Value.pointer (some { block := y5.heap.size, off := 0 }) := hout (.tmp 9) rfl
        have ocn : ∀ v, ρ (.const v) = v := fun v => hout (.const v) rfl
        have ofn : ∀ f, ρ (.func f) = .func (.func f) #[] #[] := fun f => hout (.func f) rfl
        clear hdep hout
        refine .inl ⟨?_, ?_⟩
        · rfl
        obtain ⟨n, c0, c1, c2, f0, f1, f2⟩ := SX.later hBx
        show Gives _ _ _ (.agg #[.bool j1, .int .i64 j2, .int .i64 j3]) _
        refine Gives.val ?_
        go_simp
      rcases i with _ | i
      · obtain rfl := Option.some.inj ho
        have e0 : ρ (.tmp 56) = .agg #[.bool a, .int .i64 al, .int .i64 ah] := (hdep ⟨0, .data⟩ (by simp) rfl).1 56 rfl
        have e1 : ρ (.tmp 57) = .agg #[.bool j1, .int .i64 j2, .int .i64 j3] := (hdep ⟨1, .data⟩ (by simp) rfl).1 57 rfl
        have ocn : ∀ v, ρ (.const v) = v := fun v => hout (.const v) rfl
        have ofn : ∀ f, ρ (.func f) = .func (.func f) #[] #[] := fun f => hout (.func f) rfl
        clear hdep hout
        refine .inl ⟨?_, ?_⟩
        · rfl
        show Gives _ _ _ (.agg #[.bool a, .int .i64 al, .int .i64 ah]) _
        refine Gives.call (meetS_at HA1.out x) ?_
        go_simp
      rcases i with _ | i
      · obtain rfl := Option.some.inj ho
        have o5 : ρ (.tmp 5) = Value.pointer (some { block := y1.heap.size, off := 0 }) := hout (.tmp 5) rfl
        have ocn : ∀ v, ρ (.const v) = v := fun v => hout (.const v) rfl
        have ofn : ∀ f, ρ (.func f) = .func (.func f) #[] #[] := fun f => hout (.func f) rfl
        clear hdep hout
        refine .inl ⟨?_, ?_⟩
        · rfl
        obtain ⟨n, c0, c1, c2, f0, f1, f2⟩ := SA.later hBx
        show Gives _ _ _ (.agg #[.bool a, .int .i64 al, .int .i64 ah]) _
        refine Gives.val ?_
        go_simp
      rcases i with _ | i
      · obtain rfl := Option.some.inj ho
        have e2 : ρ (.tmp 58) = .agg #[.bool a, .int .i64 al, .int .i64 ah] := (hdep ⟨2, .data⟩ (by simp) rfl).1 58 rfl
        have e3 : ρ (.tmp 59) = .agg #[.bool a, .int .i64 al, .int .i64 ah] := (hdep ⟨3, .data⟩ (by simp) rfl).1 59 rfl
        have ocn : ∀ v, ρ (.const v) = v := fun v => hout (.const v) rfl
        have ofn : ∀ f, ρ (.func f) = .func (.func f) #[] #[] := fun f => hout (.func f) rfl
        clear hdep hout
        refine .inl ⟨?_, ?_⟩
        · rfl
        show Gives _ _ _ (.bool true) _
        refine Gives.val ?_
        go_simp
      rcases i with _ | i
      · obtain rfl := Option.some.inj ho
        have e4 : ρ (.tmp 60) = .bool true := (hdep ⟨4, .data⟩ (by simp) rfl).1 60 rfl
        have ocn : ∀ v, ρ (.const v) = v := fun v => hout (.const v) rfl
        have ofn : ∀ f, ρ (.func f) = .func (.func f) #[] #[] := fun f => hout (.func f) rfl
        clear hdep hout
        refine .inl ⟨?_, ?_⟩
        · rfl
        show Gives _ _ _ (.bool true) _
        refine Gives.val ?_
        go_simp
      rcases i with _ | i
      · obtain rfl := Option.some.inj ho
        have o5 : ρ (.tmp 5) = Value.pointer (some { block := y1.heap.size, off := 0 }) := hout (.tmp 5) rfl
        have yg : y 5 = some true := (hdep ⟨5, .guard⟩ (by simp) rfl).2 61 rfl
        have ocn : ∀ v, ρ (.const v) = v := fun v => hout (.const v) rfl
        have ofn : ∀ f, ρ (.func f) = .func (.func f) #[] #[] := fun f => hout (.func f) rfl
        clear hdep hout
        refine .inl ⟨?_, ?_⟩
        · show (y 5 == some true) = true
          rw [yg]; rfl
        obtain ⟨n, c0, c1, c2, f0, f1, f2⟩ := SA.later hBx
        show Gives _ _ _ (.agg #[.bool a, .int .i64 al, .int .i64 ah]) _
        refine Gives.val ?_
        go_simp
      rcases i with _ | i
      · obtain rfl := Option.some.inj ho
        have o5 : ρ (.tmp 5) = Value.pointer (some { block := y1.heap.size, off := 0 }) := hout (.tmp 5) rfl
        have yg : y 5 = some true := (hdep ⟨5, .guard⟩ (by simp) rfl).2 61 rfl
        have ocn : ∀ v, ρ (.const v) = v := fun v => hout (.const v) rfl
        have ofn : ∀ f, ρ (.func f) = .func (.func f) #[] #[] := fun f => hout (.func f) rfl
        clear hdep hout
        refine .inl ⟨?_, ?_⟩
        · show (y 5 == some true) = true
          rw [yg]; rfl
        obtain ⟨n, c0, c1, c2, f0, f1, f2⟩ := SA.later hBx
        show Gives _ _ _ (.agg #[.bool a, .int .i64 al, .int .i64 ah]) _
        refine Gives.val ?_
        go_simp
      rcases i with _ | i
      · obtain rfl := Option.some.inj ho
        have o6 : ρ (.tmp 6) = Value.pointer (some { block := y1.heap.size + 1, off := 0 }) := hout (.tmp 6) rfl
        have yg : y 5 = some true := (hdep ⟨5, .guard⟩ (by simp) rfl).2 61 rfl
        have ocn : ∀ v, ρ (.const v) = v := fun v => hout (.const v) rfl
        have ofn : ∀ f, ρ (.func f) = .func (.func f) #[] #[] := fun f => hout (.func f) rfl
        clear hdep hout
        refine .inl ⟨?_, ?_⟩
        · show (y 5 == some true) = true
          rw [yg]; rfl
        obtain ⟨n, c0, c1, c2, f0, f1, f2⟩ := SB.later hBx
        show Gives _ _ _ (.agg #[.bool b, .int .i64 bl, .int .i64 bh]) _
        refine Gives.val ?_
        go_simp
      rcases i with _ | i
      · obtain rfl := Option.some.inj ho
        have e7 : ρ (.tmp 63) = .agg #[.bool a, .int .i64 al, .int .i64 ah] := (hdep ⟨7, .data⟩ (by simp) rfl).1 63 rfl
        have e8 : ρ (.tmp 64) = .agg #[.bool b, .int .i64 bl, .int .i64 bh] := (hdep ⟨8, .data⟩ (by simp) rfl).1 64 rfl
        have yg : y 5 = some true := (hdep ⟨5, .guard⟩ (by simp) rfl).2 61 rfl
        have ocn : ∀ v, ρ (.const v) = v := fun v => hout (.const v) rfl
        have ofn : ∀ f, ρ (.func f) = .func (.func f) #[] #[] := fun f => hout (.func f) rfl
        clear hdep hout
        refine .inl ⟨?_, ?_⟩
        · show (y 5 == some true) = true
          rw [yg]; rfl
        show Gives _ _ _ (.agg #[.bool m1, .int .i64 m2, .int .i64 m3]) _
        refine Gives.call (meetS_at hM.out x) ?_
        go_simp
      rcases i with _ | i
      · obtain rfl := Option.some.inj ho
        have e6 : ρ (.tmp 62) = .agg #[.bool a, .int .i64 al, .int .i64 ah] := (hdep ⟨6, .data⟩ (by simp) rfl).1 62 rfl
        have e9 : ρ (.tmp 65) = .agg #[.bool m1, .int .i64 m2, .int .i64 m3] := (hdep ⟨9, .data⟩ (by simp) rfl).1 65 rfl
        have yg : y 5 = some true := (hdep ⟨5, .guard⟩ (by simp) rfl).2 61 rfl
        have ocn : ∀ v, ρ (.const v) = v := fun v => hout (.const v) rfl
        have ofn : ∀ f, ρ (.func f) = .func (.func f) #[] #[] := fun f => hout (.func f) rfl
        clear hdep hout
        refine .inl ⟨?_, ?_⟩
        · show (y 5 == some true) = true
          rw [yg]; rfl
        show Gives _ _ _ (.agg #[.bool a, .int .i64 al, .int .i64 ah]) _
        refine Gives.call (joinS_at HA2.out x) ?_
        go_simp
      rcases i with _ | i
      · obtain rfl := Option.some.inj ho
        have o5 : ρ (.tmp 5) = Value.pointer (some { block := y1.heap.size, off := 0 }) := hout (.tmp 5) rfl
        have yg : y 5 = some true := (hdep ⟨5, .guard⟩ (by simp) rfl).2 61 rfl
        have ocn : ∀ v, ρ (.const v) = v := fun v => hout (.const v) rfl
        have ofn : ∀ f, ρ (.func f) = .func (.func f) #[] #[] := fun f => hout (.func f) rfl
        clear hdep hout
        refine .inl ⟨?_, ?_⟩
        · show (y 5 == some true) = true
          rw [yg]; rfl
        obtain ⟨n, c0, c1, c2, f0, f1, f2⟩ := SA.later hBx
        show Gives _ _ _ (.agg #[.bool a, .int .i64 al, .int .i64 ah]) _
        refine Gives.val ?_
        go_simp
      rcases i with _ | i
      · obtain rfl := Option.some.inj ho
        have e10 : ρ (.tmp 66) = .agg #[.bool a, .int .i64 al, .int .i64 ah] := (hdep ⟨10, .data⟩ (by simp) rfl).1 66 rfl
        have e11 : ρ (.tmp 67) = .agg #[.bool a, .int .i64 al, .int .i64 ah] := (hdep ⟨11, .data⟩ (by simp) rfl).1 67 rfl
        have yg : y 5 = some true := (hdep ⟨5, .guard⟩ (by simp) rfl).2 61 rfl
        have ocn : ∀ v, ρ (.const v) = v := fun v => hout (.const v) rfl
        have ofn : ∀ f, ρ (.func f) = .func (.func f) #[] #[] := fun f => hout (.func f) rfl
        clear hdep hout
        refine .inl ⟨?_, ?_⟩
        · show (y 5 == some true) = true
          rw [yg]; rfl
        show Gives _ _ _ (.bool true) _
        refine Gives.val ?_
        go_simp
      rcases i with _ | i
      · obtain rfl := Option.some.inj ho
        have e5 : ρ (.tmp 61) = .bool true := (hdep ⟨5, .data⟩ (by simp) rfl).1 61 rfl
        have e12 : ρ (.tmp 68) = .bool true := (hdep ⟨12, .data⟩ (by simp) rfl).1 68 rfl
        have ocn : ∀ v, ρ (.const v) = v := fun v => hout (.const v) rfl
        have ofn : ∀ f, ρ (.func f) = .func (.func f) #[] #[] := fun f => hout (.func f) rfl
        clear hdep hout
        refine .inl ⟨?_, ?_⟩
        · rfl
        show Gives _ _ _ (.bool true) _
        refine Gives.val ?_
        go_simp
      rcases i with _ | i
      · obtain rfl := Option.some.inj ho
        have e13 : ρ (.tmp 69) = .bool true := (hdep ⟨13, .data⟩ (by simp) rfl).1 69 rfl
        have ocn : ∀ v, ρ (.const v) = v := fun v => hout (.const v) rfl
        have ofn : ∀ f, ρ (.func f) = .func (.func f) #[] #[] := fun f => hout (.func f) rfl
        clear hdep hout
        refine .inl ⟨?_, ?_⟩
        · rfl
        show Gives _ _ _ (.bool true) _
        refine Gives.val ?_
        go_simp
      rcases i with _ | i
      · obtain rfl := Option.some.inj ho
        have o9 : ρ (.tmp 9) = Value.pointer (some { block := y5.heap.size, off := 0 }) := hout (.tmp 9) rfl
        have yg : y 14 = some true := (hdep ⟨14, .guard⟩ (by simp) rfl).2 70 rfl
        have ocn : ∀ v, ρ (.const v) = v := fun v => hout (.const v) rfl
        have ofn : ∀ f, ρ (.func f) = .func (.func f) #[] #[] := fun f => hout (.func f) rfl
        clear hdep hout
        refine .inl ⟨?_, ?_⟩
        · show (y 14 == some true) = true
          rw [yg]; rfl
        obtain ⟨n, c0, c1, c2, f0, f1, f2⟩ := SX.later hBx
        show Gives _ _ _ (.agg #[.bool j1, .int .i64 j2, .int .i64 j3]) _
        refine Gives.val ?_
        go_simp
      rcases i with _ | i
      · obtain rfl := Option.some.inj ho
        have o7 : ρ (.tmp 7) = Value.pointer (some { block := y3.heap.size, off := 0 }) := hout (.tmp 7) rfl
        have yg : y 14 = some true := (hdep ⟨14, .guard⟩ (by simp) rfl).2 70 rfl
        have ocn : ∀ v, ρ (.const v) = v := fun v => hout (.const v) rfl
        have ofn : ∀ f, ρ (.func f) = .func (.func f) #[] #[] := fun f => hout (.func f) rfl
        clear hdep hout
        refine .inl ⟨?_, ?_⟩
        · show (y 14 == some true) = true
          rw [yg]; rfl
        obtain ⟨n, c0, c1, c2, f0, f1, f2⟩ := SC.later hBx
        show Gives _ _ _ (.agg #[.bool c, .int .i64 cl, .int .i64 ch]) _
        refine Gives.val ?_
        go_simp
      rcases i with _ | i
      · obtain rfl := Option.some.inj ho
        have e15 : ρ (.tmp 71) = .agg #[.bool j1, .int .i64 j2, .int .i64 j3] := (hdep ⟨15, .data⟩ (by simp) rfl).1 71 rfl
        have e16 : ρ (.tmp 72) = .agg #[.bool c, .int .i64 cl, .int .i64 ch] := (hdep ⟨16, .data⟩ (by simp) rfl).1 72 rfl
        have yg : y 14 = some true := (hdep ⟨14, .guard⟩ (by simp) rfl).2 70 rfl
        have ocn : ∀ v, ρ (.const v) = v := fun v => hout (.const v) rfl
        have ofn : ∀ f, ρ (.func f) = .func (.func f) #[] #[] := fun f => hout (.func f) rfl
        clear hdep hout
        refine .inl ⟨?_, ?_⟩
        · show (y 14 == some true) = true
          rw [yg]; rfl
        show Gives _ _ _ (.agg #[.bool n1, .int .i64 n2, .int .i64 n3]) _
        refine Gives.call (joinS_at hJ2.out x) ?_
        go_simp
      rcases i with _ | i
      · obtain rfl := Option.some.inj ho
        have o5 : ρ (.tmp 5) = Value.pointer (some { block := y1.heap.size, off := 0 }) := hout (.tmp 5) rfl
        have yg : y 14 = some true := (hdep ⟨14, .guard⟩ (by simp) rfl).2 70 rfl
        have ocn : ∀ v, ρ (.const v) = v := fun v => hout (.const v) rfl
        have ofn : ∀ f, ρ (.func f) = .func (.func f) #[] #[] := fun f => hout (.func f) rfl
        clear hdep hout
        refine .inl ⟨?_, ?_⟩
        · show (y 14 == some true) = true
          rw [yg]; rfl
        obtain ⟨n, c0, c1, c2, f0, f1, f2⟩ := SA.later hBx
        show Gives _ _ _ (.agg #[.bool a, .int .i64 al, .int .i64 ah]) _
        refine Gives.val ?_
        go_simp
      rcases i with _ | i
      · obtain rfl := Option.some.inj ho
        have o6 : ρ (.tmp 6) = Value.pointer (some { block := y1.heap.size + 1, off := 0 }) := hout (.tmp 6) rfl
        have yg : y 14 = some true := (hdep ⟨14, .guard⟩ (by simp) rfl).2 70 rfl
        have ocn : ∀ v, ρ (.const v) = v := fun v => hout (.const v) rfl
        have ofn : ∀ f, ρ (.func f) = .func (.func f) #[] #[] := fun f => hout (.func f) rfl
        clear hdep hout
        refine .inl ⟨?_, ?_⟩
        · show (y 14 == some true) = true
          rw [yg]; rfl
        obtain ⟨n, c0, c1, c2, f0, f1, f2⟩ := SB.later hBx
        show Gives _ _ _ (.agg #[.bool b, .int .i64 bl, .int .i64 bh]) _
        refine Gives.val ?_
        go_simp
      rcases i with _ | i
      · obtain rfl := Option.some.inj ho
        have o7 : ρ (.tmp 7) = Value.pointer (some { block := y3.heap.size, off := 0 }) := hout (.tmp 7) rfl
        have yg : y 14 = some true := (hdep ⟨14, .guard⟩ (by simp) rfl).2 70 rfl
        have ocn : ∀ v, ρ (.const v) = v := fun v => hout (.const v) rfl
        have ofn : ∀ f, ρ (.func f) = .func (.func f) #[] #[] := fun f => hout (.func f) rfl
        clear hdep hout
        refine .inl ⟨?_, ?_⟩
        · show (y 14 == some true) = true
          rw [yg]; rfl
        obtain ⟨n, c0, c1, c2, f0, f1, f2⟩ := SC.later hBx
        show Gives _ _ _ (.agg #[.bool c, .int .i64 cl, .int .i64 ch]) _
        refine Gives.val ?_
        go_simp
      rcases i with _ | i
      · obtain rfl := Option.some.inj ho
        have e19 : ρ (.tmp 75) = .agg #[.bool b, .int .i64 bl, .int .i64 bh] := (hdep ⟨19, .data⟩ (by simp) rfl).1 75 rfl
        have e20 : ρ (.tmp 76) = .agg #[.bool c, .int .i64 cl, .int .i64 ch] := (hdep ⟨20, .data⟩ (by simp) rfl).1 76 rfl
        have yg : y 14 = some true := (hdep ⟨14, .guard⟩ (by simp) rfl).2 70 rfl
        have ocn : ∀ v, ρ (.const v) = v := fun v => hout (.const v) rfl
        have ofn : ∀ f, ρ (.func f) = .func (.func f) #[] #[] := fun f => hout (.func f) rfl
        clear hdep hout
        refine .inl ⟨?_, ?_⟩
        · show (y 14 == some true) = true
          rw [yg]; rfl
        show Gives _ _ _ (.agg #[.bool p1, .int .i64 p2, .int .i64 p3]) _
        refine Gives.call (joinS_at hJB.out x) ?_
        go_simp
      rcases i with _ | i
      · obtain rfl := Option.some.inj ho
        have e18 : ρ (.tmp 74) = .agg #[.bool a, .int .i64 al, .int .i64 ah] := (hdep ⟨18, .data⟩ (by simp) rfl).1 74 rfl
        have e21 : ρ (.tmp 77) = .agg #[.bool p1, .int .i64 p2, .int .i64 p3] := (hdep ⟨21, .data⟩ (by simp) rfl).1 77 rfl
        have yg : y 14 = some true := (hdep ⟨14, .guard⟩ (by simp) rfl).2 70 rfl
        have ocn : ∀ v, ρ (.const v) = v := fun v => hout (.const v) rfl
        have ofn : ∀ f, ρ (.func f) = .func (.func f) #[] #[] := fun f => hout (.func f) rfl
        clear hdep hout
        refine .inl ⟨?_, ?_⟩
        · show (y 14 == some true) = true
          rw [yg]; rfl
        show Gives _ _ _ (.agg #[.bool n1, .int .i64 n2, .int .i64 n3]) _
        refine Gives.call (joinS_at HA3.out x) ?_
        go_simp
      rcases i with _ | i
      · obtain rfl := Option.some.inj ho
        have e17 : ρ (.tmp 73) = .agg #[.bool n1, .int .i64 n2, .int .i64 n3] := (hdep ⟨17, .data⟩ (by simp) rfl).1 73 rfl
        have e22 : ρ (.tmp 78) = .agg #[.bool n1, .int .i64 n2, .int .i64 n3] := (hdep ⟨22, .data⟩ (by simp) rfl).1 78 rfl
        have yg : y 14 = some true := (hdep ⟨14, .guard⟩ (by simp) rfl).2 70 rfl
        have ocn : ∀ v, ρ (.const v) = v := fun v => hout (.const v) rfl
        have ofn : ∀ f, ρ (.func f) = .func (.func f) #[] #[] := fun f => hout (.func f) rfl
        clear hdep hout
        refine .inl ⟨?_, ?_⟩
        · show (y 14 == some true) = true
          rw [yg]; rfl
        show Gives _ _ _ (.bool true) _
        refine Gives.val ?_
        go_simp
      rcases i with _ | i
      · obtain rfl := Option.some.inj ho
        have e14 : ρ (.tmp 70) = .bool true := (hdep ⟨14, .data⟩ (by simp) rfl).1 70 rfl
        have e23 : ρ (.tmp 79) = .bool true := (hdep ⟨23, .data⟩ (by simp) rfl).1 79 rfl
        have ocn : ∀ v, ρ (.const v) = v := fun v => hout (.const v) rfl
        have ofn : ∀ f, ρ (.func f) = .func (.func f) #[] #[] := fun f => hout (.func f) rfl
        clear hdep hout
        refine .inl ⟨?_, ?_⟩
        · rfl
        show Gives _ _ _ (.bool true) _
        refine Gives.val ?_
        go_simp
      rcases i with _ | i
      · obtain rfl := Option.some.inj ho
        have e24 : ρ (.tmp 80) = .bool true := (hdep ⟨24, .data⟩ (by simp) rfl).1 80 rfl
        have ocn : ∀ v, ρ (.const v) = v := fun v => hout (.const v) rfl
        have ofn : ∀ f, ρ (.func f) = .func (.func f) #[] #[] := fun f => hout (.func f) rfl
        clear hdep hout
        refine .inl ⟨?_, ?_⟩
        · rfl
        show Gives _ _ _ (.bool true) _
        refine Gives.val ?_
        go_simp
      rcases i with _ | i
      · obtain rfl := Option.some.inj ho
        have o5 : ρ (.tmp 5) = Value.pointer (some { block := y1.heap.size, off := 0 }) := hout (.tmp 5) rfl
        have yg : y 25 = some true := (hdep ⟨25, .guard⟩ (by simp) rfl).2 81 rfl
        have ocn : ∀ v, ρ (.const v) = v := fun v => hout (.const v) rfl
        have ofn : ∀ f, ρ (.func f) = .func (.func f) #[] #[] := fun f => hout (.func f) rfl
        clear hdep hout
        refine .inl ⟨?_, ?_⟩
        · show (y 25 == some true) = true
          rw [yg]; rfl
        obtain ⟨n, c0, c1, c2, f0, f1, f2⟩ := SA.later hBx
        show Gives _ _ _ (.agg #[.bool a, .int .i64 al, .int .i64 ah]) _
        refine Gives.val ?_
        go_simp
      rcases i with _ | i
      · obtain rfl := Option.some.inj ho
        have o6 : ρ (.tmp 6) = Value.pointer (some { block := y1.heap.size + 1, off := 0 }) := hout (.tmp 6) rfl
        have yg : y 25 = some true := (hdep ⟨25, .guard⟩ (by simp) rfl).2 81 rfl
        have ocn : ∀ v, ρ (.const v) = v := fun v => hout (.const v) rfl
        have ofn : ∀ f, ρ (.func f) = .func (.func f) #[] #[] := fun f => hout (.func f) rfl
        clear hdep hout
        refine .inl ⟨?_, ?_⟩
        · show (y 25 == some true) = true
          rw [yg]; rfl
        obtain ⟨n, c0, c1, c2, f0, f1, f2⟩ := SB.later hBx
        show Gives _ _ _ (.agg #[.bool b, .int .i64 bl, .int .i64 bh]) _
        refine Gives.val ?_
        go_simp
      rcases i with _ | i
      · obtain rfl := Option.some.inj ho
        have e26 : ρ (.tmp 82) = .agg #[.bool a, .int .i64 al, .int .i64 ah] := (hdep ⟨26, .data⟩ (by simp) rfl).1 82 rfl
        have e27 : ρ (.tmp 83) = .agg #[.bool b, .int .i64 bl, .int .i64 bh] := (hdep ⟨27, .data⟩ (by simp) rfl).1 83 rfl
        have yg : y 25 = some true := (hdep ⟨25, .guard⟩ (by simp) rfl).2 81 rfl
        have ocn : ∀ v, ρ (.const v) = v := fun v => hout (.const v) rfl
        have ofn : ∀ f, ρ (.func f) = .func (.func f) #[] #[] := fun f => hout (.func f) rfl
        clear hdep hout
        refine .inl ⟨?_, ?_⟩
        · show (y 25 == some true) = true
          rw [yg]; rfl
        show Gives _ _ _ (.agg #[.bool m1, .int .i64 m2, .int .i64 m3]) _
        refine Gives.call (meetS_at hM.out x) ?_
        go_simp
      rcases i with _ | i
      · obtain rfl := Option.some.inj ho
        have o7 : ρ (.tmp 7) = Value.pointer (some { block := y3.heap.size, off := 0 }) := hout (.tmp 7) rfl
        have yg : y 25 = some true := (hdep ⟨25, .guard⟩ (by simp) rfl).2 81 rfl
        have ocn : ∀ v, ρ (.const v) = v := fun v => hout (.const v) rfl
        have ofn : ∀ f, ρ (.func f) = .func (.func f) #[] #[] := fun f => hout (.func f) rfl
        clear hdep hout
        refine .inl ⟨?_, ?_⟩
        · show (y 25 == some true) = true
          rw [yg]; rfl
        obtain ⟨n, c0, c1, c2, f0, f1, f2⟩ := SC.later hBx
        show Gives _ _ _ (.agg #[.bool c, .int .i64 cl, .int .i64 ch]) _
        refine Gives.val ?_
        go_simp
      rcases i with _ | i
      · obtain rfl := Option.some.inj ho
        have e28 : ρ (.tmp 84) = .agg #[.bool m1, .int .i64 m2, .int .i64 m3] := (hdep ⟨28, .data⟩ (by simp) rfl).1 84 rfl
        have e29 : ρ (.tmp 85) = .agg #[.bool c, .int .i64 cl, .int .i64 ch] := (hdep ⟨29, .data⟩ (by simp) rfl).1 85 rfl
        have yg : y 25 = some true := (hdep ⟨25, .guard⟩ (by simp) rfl).2 81 rfl
        have ocn : ∀ v, ρ (.const v) = v := fun v => hout (.const v) rfl
        have ofn : ∀ f, ρ (.func f) = .func (.func f) #[] #[] := fun f => hout (.func f) rfl
        clear hdep hout
        refine .inl ⟨?_, ?_⟩
        · show (y 25 == some true) = true
          rw [yg]; rfl
        show Gives _ _ _ (.agg #[.bool q1, .int .i64 q2, .int .i64 q3]) _
        refine Gives.call (meetS_at hMM.out x) ?_
        go_simp
      rcases i with _ | i
      · obtain rfl := Option.some.inj ho
        have o5 : ρ (.tmp 5) = Value.pointer (some { block := y1.heap.size, off := 0 }) := hout (.tmp 5) rfl
        have yg : y 25 = some true := (hdep ⟨25, .guard⟩ (by simp) rfl).2 81 rfl
        have ocn : ∀ v, ρ (.const v) = v := fun v => hout (.const v) rfl
        have ofn : ∀ f, ρ (.func f) = .func (.func f) #[] #[] := fun f => hout (.func f) rfl
        clear hdep hout
        refine .inl ⟨?_, ?_⟩
        · show (y 25 == some true) = true
          rw [yg]; rfl
        obtain ⟨n, c0, c1, c2, f0, f1, f2⟩ := SA.later hBx
        show Gives _ _ _ (.agg #[.bool a, .int .i64 al, .int .i64 ah]) _
        refine Gives.val ?_
        go_simp
      rcases i with _ | i
      · obtain rfl := Option.some.inj ho
        have o6 : ρ (.tmp 6) = Value.pointer (some { block := y1.heap.size + 1, off := 0 }) := hout (.tmp 6) rfl
        have yg : y 25 = some true := (hdep ⟨25, .guard⟩ (by simp) rfl).2 81 rfl
        have ocn : ∀ v, ρ (.const v) = v := fun v => hout (.const v) rfl
        have ofn : ∀ f, ρ (.func f) = .func (.func f) #[] #[] := fun f => hout (.func f) rfl
        clear hdep hout
        refine .inl ⟨?_, ?_⟩
        · show (y 25 == some true) = true
          rw [yg]; rfl
        obtain ⟨n, c0, c1, c2, f0, f1, f2⟩ := SB.later hBx
        show Gives _ _ _ (.agg #[.bool b, .int .i64 bl, .int .i64 bh]) _
        refine Gives.val ?_
        go_simp
      rcases i with _ | i
      · obtain rfl := Option.some.inj ho
        have o7 : ρ (.tmp 7) = Value.pointer (some { block := y3.heap.size, off := 0 }) := hout (.tmp 7) rfl
        have yg : y 25 = some true := (hdep ⟨25, .guard⟩ (by simp) rfl).2 81 rfl
        have ocn : ∀ v, ρ (.const v) = v := fun v => hout (.const v) rfl
        have ofn : ∀ f, ρ (.func f) = .func (.func f) #[] #[] := fun f => hout (.func f) rfl
        clear hdep hout
        refine .inl ⟨?_, ?_⟩
        · show (y 25 == some true) = true
          rw [yg]; rfl
        obtain ⟨n, c0, c1, c2, f0, f1, f2⟩ := SC.later hBx
        show Gives _ _ _ (.agg #[.bool c, .int .i64 cl, .int .i64 ch]) _
        refine Gives.val ?_
        go_simp
      rcases i with _ | i
      · obtain rfl := Option.some.inj ho
        have e32 : ρ (.tmp 88) = .agg #[.bool b, .int .i64 bl, .int .i64 bh] := (hdep ⟨32, .data⟩ (by simp) rfl).1 88 rfl
        have e33 : ρ (.tmp 89) = .agg #[.bool c, .int .i64 cl, .int .i64 ch] := (hdep ⟨33, .data⟩ (by simp) rfl).1 89 rfl
        have yg : y 25 = some true := (hdep ⟨25, .guard⟩ (by simp) rfl).2 81 rfl
        have ocn : ∀ v, ρ (.const v) = v := fun v => hout (.const v) rfl
        have ofn : ∀ f, ρ (.func f) = .func (.func f) #[] #[] := fun f => hout (.func f) rfl
        clear hdep hout
        refine .inl ⟨?_, ?_⟩
        · show (y 25 == some true) = true
          rw [yg]; rfl
        show Gives _ _ _ (.agg #[.bool r1, .int .i64 r2, .int .i64 r3]) _
        refine Gives.call (meetS_at hMB.out x) ?_
        go_simp
      rcases i with _ | i
      · obtain rfl := Option.some.inj ho
        have e31 : ρ (.tmp 87) = .agg #[.bool a, .int .i64 al, .int .i64 ah] := (hdep ⟨31, .data⟩ (by simp) rfl).1 87 rfl
        have e34 : ρ (.tmp 90) = .agg #[.bool r1, .int .i64 r2, .int .i64 r3] := (hdep ⟨34, .data⟩ (by simp) rfl).1 90 rfl
        have yg : y 25 = some true := (hdep ⟨25, .guard⟩ (by simp) rfl).2 81 rfl
        have ocn : ∀ v, ρ (.const v) = v := fun v => hout (.const v) rfl
        have ofn : ∀ f, ρ (.func f) = .func (.func f) #[] #[] := fun f => hout (.func f) rfl
        clear hdep hout
        refine .inl ⟨?_, ?_⟩
        · show (y 25 == some true) = true
          rw [yg]; rfl
        show Gives _ _ _ (.agg #[.bool q1, .int .i64 q2, .int .i64 q3]) _
        refine Gives.call (meetS_at HA4.out x) ?_
        go_simp
      rcases i with _ | i
      · obtain rfl := Option.some.inj ho
        have e30 : ρ (.tmp 86) = .agg #[.bool q1, .int .i64 q2, .int .i64 q3] := (hdep ⟨30, .data⟩ (by simp) rfl).1 86 rfl
        have e35 : ρ (.tmp 91) = .agg #[.bool q1, .int .i64 q2, .int .i64 q3] := (hdep ⟨35, .data⟩ (by simp) rfl).1 91 rfl
        have yg : y 25 = some true := (hdep ⟨25, .guard⟩ (by simp) rfl).2 81 rfl
        have ocn : ∀ v, ρ (.const v) = v := fun v => hout (.const v) rfl
        have ofn : ∀ f, ρ (.func f) = .func (.func f) #[] #[] := fun f => hout (.func f) rfl
        clear hdep hout
        refine .inl ⟨?_, ?_⟩
        · show (y 25 == some true) = true
          rw [yg]; rfl
        show Gives _ _ _ (.bool true) _
        refine Gives.val ?_
        go_simp
      rcases i with _ | i
      · obtain rfl := Option.some.inj ho
        have e25 : ρ (.tmp 81) = .bool true := (hdep ⟨25, .data⟩ (by simp) rfl).1 81 rfl
        have e36 : ρ (.tmp 92) = .bool true := (hdep ⟨36, .data⟩ (by simp) rfl).1 92 rfl
        have ocn : ∀ v, ρ (.const v) = v := fun v => hout (.const v) rfl
        have ofn : ∀ f, ρ (.func f) = .func (.func f) #[] #[] := fun f => hout (.func f) rfl
        clear hdep hout
        refine .inl ⟨?_, ?_⟩
        · rfl
        show Gives _ _ _ (.bool true) _
        refine Gives.val ?_
        go_simp
      rcases i with _ | i
      · obtain rfl := Option.some.inj ho
        have e37 : ρ (.tmp 93) = .bool true := (hdep ⟨37, .data⟩ (by simp) rfl).1 93 rfl
        have ocn : ∀ v, ρ (.const v) = v := fun v => hout (.const v) rfl
        have ofn : ∀ f, ρ (.func f) = .func (.func f) #[] #[] := fun f => hout (.func f) rfl
        clear hdep hout
        refine .inl ⟨?_, ?_⟩
        · rfl
        show Gives _ _ _ (.bool true) _
        refine Gives.val ?_
        go_simp
      cases ho
    case fin =>
      intro x hBx
      go_wp2_with fail
      go_ret
      exact ⟨rfl, hB.trans (hBx.mono hB.size)⟩

end Go.Proofs.Ytlnfjjciilieeaa
