/-
  The walk of the law FnWideEnds.
-/
import Derived.Test.YtlnfjjciilieeaaOfP
import Derived.Test.YtlnfjjciilieeaaDrawM
import Derived.Test.YtlnfjjciilieeaaWideN
import Derived.Test.YtlnfjjciilieeaaInv2
import Derived.Test.YtlnfjjciilieeaaInv3
import Derived.Deep.DeepCutAuto
namespace Go.Proofs.Ytlnfjjciilieeaa
open Go.RowKit
set_option linter.unusedVariables false
set_option linter.unusedSimpArgs false

def WE12 (mk : Value → Value → Value → Value → Value → Value → Value → Value → Value → Value → Value → Value → Value → Value → Act) (w0 : World) (V0 V1 V2 V3 V4 V5 V6 V7 V8 V9 V10 V11 V12 : Value) (J0 : Sp) (listed : Array Bool) (a : Act) (x : World) : Prop :=
  ∃ (b0 b1 b2 b3 b4 b5 b6 b7 b8 b9 b10 b11 b12 b13 b14 : Bool) (s46 s47 s48 s49 s50 s51 s52 s53 s54 s55 s56 s57 s58 s9 : Value), listed = #[b0, b1, b2, b3, b4, b5, b6, b7, b8, b9, b10, b11, b12, b13, b14] ∧ a = mk s46 s47 s48 s49 s50 s51 s52 s53 s54 s55 s56 s57 s58 s9 ∧ Below w0.heap.size w0 x ∧ Sl b0 s46 V0 ∧ Sl b1 s47 V1 ∧ Sl b2 s48 V2 ∧ Sl b3 s49 V3 ∧ Sl b4 s50 V4 ∧ Sl b5 s51 V5 ∧ Sl b6 s52 V6 ∧ Sl b7 s53 V7 ∧ Sl b8 s54 V8 ∧ Sl b9 s55 V9 ∧ Sl b10 s56 V10 ∧ Sl b11 s57 V11 ∧ Sl b12 s58 V12 ∧ PF w0 x b13 b14 s9 J0
set_option maxRecDepth 100000 in
set_option maxHeartbeats 8000000 in
theorem wideEnds_walk (a0 : Option Addr) (len0 cap0 : Nat) (z0 : List Int) (w : World) (h0 : IsRow w a0 len0 cap0 z0) :
    Calls Try.prog 5 #[.slice a0 len0 cap0] w fun e w' => e = .returned (.bool true) ∧ Below w.heap.size w w' := by
  have hm0 := row_len h0
  unfold maxLen at hm0
  by_cases hl0 : (1048576 : Int) < (len0 : Int)
  · clear h0
    go_enter Try.func5, Try.ntmps5
    go_wp2
    go_ret
    exact ⟨rfl, by go_grown⟩
  go_enter Try.func5, Try.ntmps5
  go_wp2_with fail
  refine (drawSpanWide_any a0 len0 cap0 z0 _ h0).mono ?_
  rintro e y1 hg
  obtain ⟨a, al, ah, b, bl, bh, rfl, _, _, _, _, hbl0, hbl1, _, _, hb⟩ := hg.it
  clear hg h0
  have hB := hb
  clear hb
  obtain ⟨j1, j2, j3, hX⟩ : ∃ j1 j2 j3, Hid (wideF a al ah b bl bh = (j1, j2, j3)) := ⟨_, _, _, rfl⟩
  go_wp2_with fail
  have hG : Below y1.heap.size y1 ((y1.alloc (.cells #[.bool a, .int .i64 al, .int .i64 ah] 24)).alloc (.cells #[.bool b, .int .i64 bl, .int .i64 bh] 24)) := by go_grown
  have SA : Sp3 ((y1.alloc (.cells #[.bool a, .int .i64 al, .int .i64 ah] 24)).alloc (.cells #[.bool b, .int .i64 bl, .int .i64 bh] 24)) (y1.heap.size) a al ah := ⟨by go_size, by simp [go_sem], by simp [go_sem], by simp [go_sem], by simp [go_sem], by simp [go_sem], by simp [go_sem]⟩
  have SB : Sp3 ((y1.alloc (.cells #[.bool a, .int .i64 al, .int .i64 ah] 24)).alloc (.cells #[.bool b, .int .i64 bl, .int .i64 bh] 24)) (y1.heap.size + 1) b bl bh := ⟨by go_size, by simp [go_sem], by simp [go_sem], by simp [go_sem], by simp [go_sem], by simp [go_sem], by simp [go_sem]⟩
  replace hB := hB.trans (hG.mono hB.size)
  clear hG
  generalize hgen : ((y1.alloc (.cells #[.bool a, .int .i64 al, .int .i64 ah] 24)).alloc (.cells #[.bool b, .int .i64 bl, .int .i64 bh] 24)) = y2 at SA SB  hB ⊢
  refine (wide_at hX.out _).mono ?_
  rintro e y3 ⟨rfl, hb⟩
  replace SA := SA.later hb
  replace SB := SB.later hb
  replace hB := hB.trans (hb.mono hB.size)
  clear hb
  obtain ⟨oa, Hoa⟩ : ∃ o, Hid (okF a al ah = o) := ⟨_, rfl⟩
  obtain ⟨ob, Hob⟩ : ∃ o, Hid (okF b bl bh = o) := ⟨_, rfl⟩
  obtain ⟨g2, hgg2⟩ : ∃ g, (oa && ob) = g := ⟨_, rfl⟩
  have HG : Hid (g2 = true → oa = true ∧ ob = true) := by intro h; rw [h] at hgg2; simp only [Bool.and_eq_true] at hgg2; exact ⟨hgg2.1, hgg2.2⟩
  have HE2 : Hid ((oa && ob) = g2) := hgg2
  clear hgg2
  go_upto_region 5 with fail
  have hG : Below y3.heap.size y3 (y3.alloc (.cells #[.bool j1, .int .i64 j2, .int .i64 j3] 24)) := by go_grown
  replace SA := SA.later hG
  replace SB := SB.later hG
  have SX : Sp3 (y3.alloc (.cells #[.bool j1, .int .i64 j2, .int .i64 j3] 24)) (y3.heap.size) j1 j2 j3 := ⟨by go_size, by simp [go_sem], by simp [go_sem], by simp [go_sem], by simp [go_sem], by simp [go_sem], by simp [go_sem]⟩
  replace hB := hB.trans (hG.mono hB.size)
  clear hG
  generalize hgen : (y3.alloc (.cells #[.bool j1, .int .i64 j2, .int .i64 j3] 24)) = y4 at SA SB SX  hB ⊢
  have hBo := hB
  go_cut [35] (fun s35 x => s35 = .bool (!g2) ∧ Below w.heap.size w x ∧ Sp3 x (y1.heap.size) a al ah ∧ Sp3 x (y1.heap.size + 1) b bl bh ∧ Sp3 x (y3.heap.size) j1 j2 j3)
  case first =>
    refine wp_region_vals (by kernel_rfl) (by kernel_rfl) (by kernel_rfl) (by kernel_rfl) (fun j => [.agg #[.bool j1, .int .i64 j2, .int .i64 j3], .agg #[.bool a, .int .i64 al, .int .i64 ah], .agg #[.bool b, .int .i64 bl, .int .i64 bh], .agg #[.bool j1, .int .i64 j2, .int .i64 j3], .bool false, .bool false, .agg #[.bool a, .int .i64 al, .int .i64 ah], .bool oa, .bool (!oa), .bool (!oa), .bool (!oa), bif oa then (.agg #[.bool b, .int .i64 bl, .int .i64 bh]) else undef, bif oa then (.bool ob) else undef, bif oa then (.bool (!ob)) else undef, .bool (!g2)].getD j undef) y4 (Below.drew (Below.refl _ _)) ?step ⟨#[Value.slice a0 len0 cap0, undef, Value.bool false, Value.pointer (some { block := y1.heap.size, off := 0 }), Value.pointer (some { block := y1.heap.size + 1, off := 0 }), Value.pointer (some { block := y3.heap.size, off := 0 }), undef, undef, undef, undef, Value.slice a0 len0 cap0, Value.int IntKind.i64 ↑len0, Value.bool false, Value.tuple #[Value.agg #[Value.bool a, Value.int IntKind.i64 al, Value.int IntKind.i64 ah], Value.agg #[Value.bool b, Value.int IntKind.i64 bl, Value.int IntKind.i64 bh]], Value.slice a0 len0 cap0, Value.tuple #[Value.agg #[Value.bool a, Value.int IntKind.i64 al, Value.int IntKind.i64 ah], Value.agg #[Value.bool b, Value.int IntKind.i64 bl, Value.int IntKind.i64 bh]], Value.agg #[Value.bool a, Value.int IntKind.i64 al, Value.int IntKind.i64 ah], Value.agg #[Value.bool b, Value.int IntKind.i64 bl, Value.int IntKind.i64 bh], Value.agg #[Value.bool a, Value.int IntKind.i64 al, Value.int IntKind.i64 ah], Value.agg #[Value.bool b, Value.int IntKind.i64 bl, Value.int IntKind.i64 bh], Value.agg #[Value.bool j1, Value.int IntKind.i64 j2, Value.int IntKind.i64 j3], .agg #[.bool j1, .int .i64 j2, .int .i64 j3], .agg #[.bool a, .int .i64 al, .int .i64 ah], .agg #[.bool b, .int .i64 bl, .int .i64 bh], .agg #[.bool j1, .int .i64 j2, .int .i64 j3], .bool false, .bool false, .agg #[.bool a, .int .i64 al, .int .i64 ah], .bool oa, .bool (!oa), .bool (!oa), .bool (!oa), bif oa then (.agg #[.bool b, .int .i64 bl, .int .i64 bh]) else undef, bif oa then (.bool ob) else undef, bif oa then (.bool (!ob)) else undef, .bool (!g2), undef, undef, undef, undef, undef, undef, undef, undef, undef, undef, undef, undef, undef, undef, undef, undef, undef, undef, undef, undef, undef, undef, undef, undef, undef, undef, undef, undef, undef, undef, undef], []⟩ (by kernel_rfl) ?fin
    case step =>
      intro i o ho ρ y x hBx hdep hout
      rcases i with _ | i
      · obtain rfl := Option.some.inj ho
        have o5 : ρ (.tmp 5) = Value.pointer (some { block := y3.heap.size, off := 0 }) := hout (.tmp 5) rfl
        have ocn : ∀ v, ρ (.const v) = v := fun v => hout (.const v) rfl
        have ofn : ∀ f, ρ (.func f) = .func (.func f) #[] #[] := fun f => hout (.func f) rfl
        clear hdep hout
        refine .inl ⟨?_, ?_⟩
        · rfl
        obtain ⟨n, c0, c1, c2, f0, f1, f2⟩ := SX.later hBx
        show Gives _ _ _ (.agg #[.bool j1, .int .i64 j2, .int .i64 j3]) _
        refine Gives.val ?_
        go_simp
      rcases i with _ | i
      · obtain rfl := Option.some.inj ho
        have o3 : ρ (.tmp 3) = Value.pointer (some { block := y1.heap.size, off := 0 }) := hout (.tmp 3) rfl
        have ocn : ∀ v, ρ (.const v) = v := fun v => hout (.const v) rfl
        have ofn : ∀ f, ρ (.func f) = .func (.func f) #[] #[] := fun f => hout (.func f) rfl
        clear hdep hout
        refine .inl ⟨?_, ?_⟩
        · rfl
        obtain ⟨n, c0, c1, c2, f0, f1, f2⟩ := SA.later hBx
        show Gives _ _ _ (.agg #[.bool a, .int .i64 al, .int .i64 ah]) _
        refine Gives.val ?_
        go_simp
      rcases i with _ | i
      · obtain rfl := Option.some.inj ho
        have o4 : ρ (.tmp 4) = Value.pointer (some { block := y1.heap.size + 1, off := 0 }) := hout (.tmp 4) rfl
        have ocn : ∀ v, ρ (.const v) = v := fun v => hout (.const v) rfl
        have ofn : ∀ f, ρ (.func f) = .func (.func f) #[] #[] := fun f => hout (.func f) rfl
        clear hdep hout
        refine .inl ⟨?_, ?_⟩
        · rfl
        obtain ⟨n, c0, c1, c2, f0, f1, f2⟩ := SB.later hBx
        show Gives _ _ _ (.agg #[.bool b, .int .i64 bl, .int .i64 bh]) _
        refine Gives.val ?_
        go_simp
      rcases i with _ | i
      · obtain rfl := Option.some.inj ho
        have e1 : ρ (.tmp 22) = .agg #[.bool a, .int .i64 al, .int .i64 ah] := (hdep ⟨1, .data⟩ (by simp) rfl).1 22 rfl
        have e2 : ρ (.tmp 23) = .agg #[.bool b, .int .i64 bl, .int .i64 bh] := (hdep ⟨2, .data⟩ (by simp) rfl).1 23 rfl
        have ocn : ∀ v, ρ (.const v) = v := fun v => hout (.const v) rfl
        have ofn : ∀ f, ρ (.func f) = .func (.func f) #[] #[] := fun f => hout (.func f) rfl
        clear hdep hout
        refine .inl ⟨?_, ?_⟩
        · rfl
        show Gives _ _ _ (.agg #[.bool j1, .int .i64 j2, .int .i64 j3]) _
        refine Gives.call (wideT_at hX.out x) ?_
        go_simp
      rcases i with _ | i
      · obtain rfl := Option.some.inj ho
        have e0 : ρ (.tmp 21) = .agg #[.bool j1, .int .i64 j2, .int .i64 j3] := (hdep ⟨0, .data⟩ (by simp) rfl).1 21 rfl
        have e3 : ρ (.tmp 24) = .agg #[.bool j1, .int .i64 j2, .int .i64 j3] := (hdep ⟨3, .data⟩ (by simp) rfl).1 24 rfl
        have ocn : ∀ v, ρ (.const v) = v := fun v => hout (.const v) rfl
        have ofn : ∀ f, ρ (.func f) = .func (.func f) #[] #[] := fun f => hout (.func f) rfl
        clear hdep hout
        refine .inl ⟨?_, ?_⟩
        · rfl
        show Gives _ _ _ (.bool false) _
        refine Gives.val ?_
        go_simp
      rcases i with _ | i
      · obtain rfl := Option.some.inj ho
        have e4 : ρ (.tmp 25) = .bool false := (hdep ⟨4, .data⟩ (by simp) rfl).1 25 rfl
        have ocn : ∀ v, ρ (.const v) = v := fun v => hout (.const v) rfl
        have ofn : ∀ f, ρ (.func f) = .func (.func f) #[] #[] := fun f => hout (.func f) rfl
        clear hdep hout
        refine .inl ⟨?_, ?_⟩
        · rfl
        show Gives _ _ _ (.bool false) _
        refine Gives.val ?_
        go_simp
      rcases i with _ | i
      · obtain rfl := Option.some.inj ho
        have o3 : ρ (.tmp 3) = Value.pointer (some { block := y1.heap.size, off := 0 }) := hout (.tmp 3) rfl
        have yg : y 5 = some false := (hdep ⟨5, .guard⟩ (by simp) rfl).2 26 rfl
        have ocn : ∀ v, ρ (.const v) = v := fun v => hout (.const v) rfl
        have ofn : ∀ f, ρ (.func f) = .func (.func f) #[] #[] := fun f => hout (.func f) rfl
        clear hdep hout
        refine .inl ⟨?_, ?_⟩
        · show (y 5 == some false) = true
          rw [yg]; rfl
        obtain ⟨n, c0, c1, c2, f0, f1, f2⟩ := SA.later hBx
        show Gives _ _ _ (.agg #[.bool a, .int .i64 al, .int .i64 ah]) _
        refine Gives.val ?_
        go_simp
      rcases i with _ | i
      · obtain rfl := Option.some.inj ho
        have e6 : ρ (.tmp 27) = .agg #[.bool a, .int .i64 al, .int .i64 ah] := (hdep ⟨6, .data⟩ (by simp) rfl).1 27 rfl
        have yg : y 5 = some false := (hdep ⟨5, .guard⟩ (by simp) rfl).2 26 rfl
        have ocn : ∀ v, ρ (.const v) = v := fun v => hout (.const v) rfl
        have ofn : ∀ f, ρ (.func f) = .func (.func f) #[] #[] := fun f => hout (.func f) rfl
        clear hdep hout
        refine .inl ⟨?_, ?_⟩
        · show (y 5 == some false) = true
          rw [yg]; rfl
        show Gives _ _ _ (.bool oa) _
        refine Gives.call (ok_at Hoa.out x) ?_
        go_simp
      rcases i with _ | i
      · obtain rfl := Option.some.inj ho
        have e7 : ρ (.tmp 28) = .bool oa := (hdep ⟨7, .data⟩ (by simp) rfl).1 28 rfl
        have yg : y 5 = some false := (hdep ⟨5, .guard⟩ (by simp) rfl).2 26 rfl
        have ocn : ∀ v, ρ (.const v) = v := fun v => hout (.const v) rfl
        have ofn : ∀ f, ρ (.func f) = .func (.func f) #[] #[] := fun f => hout (.func f) rfl
        clear hdep hout
        refine .inl ⟨?_, ?_⟩
        · show (y 5 == some false) = true
          rw [yg]; rfl
        show Gives _ _ _ (.bool (!oa)) _
        refine Gives.val ?_
        go_simp
      rcases i with _ | i
      · obtain rfl := Option.some.inj ho
        have e5 : ρ (.tmp 26) = .bool false := (hdep ⟨5, .data⟩ (by simp) rfl).1 26 rfl
        have e8 : ρ (.tmp 29) = .bool (!oa) := (hdep ⟨8, .data⟩ (by simp) rfl).1 29 rfl
        have ocn : ∀ v, ρ (.const v) = v := fun v => hout (.const v) rfl
        have ofn : ∀ f, ρ (.func f) = .func (.func f) #[] #[] := fun f => hout (.func f) rfl
        clear hdep hout
        refine .inl ⟨?_, ?_⟩
        · rfl
        show Gives _ _ _ (.bool (!oa)) _
        refine Gives.val ?_
        go_simp
      rcases i with _ | i
      · obtain rfl := Option.some.inj ho
        have e9 : ρ (.tmp 30) = .bool (!oa) := (hdep ⟨9, .data⟩ (by simp) rfl).1 30 rfl
        have ocn : ∀ v, ρ (.const v) = v := fun v => hout (.const v) rfl
        have ofn : ∀ f, ρ (.func f) = .func (.func f) #[] #[] := fun f => hout (.func f) rfl
        clear hdep hout
        refine .inl ⟨?_, ?_⟩
        · rfl
        show Gives _ _ _ (.bool (!oa)) _
        refine Gives.val ?_
        go_simp
      rcases i with _ | i
      · obtain rfl := Option.some.inj ho
        cases oa
        · have o4 : ρ (.tmp 4) = Value.pointer (some { block := y1.heap.size + 1, off := 0 }) := hout (.tmp 4) rfl
          have yg : y 10 = some (!false) := (hdep ⟨10, .guard⟩ (by simp) rfl).2 31 rfl
          have ocn : ∀ v, ρ (.const v) = v := fun v => hout (.const v) rfl
          have ofn : ∀ f, ρ (.func f) = .func (.func f) #[] #[] := fun f => hout (.func f) rfl
          clear hdep hout
          refine .inr ⟨?_, rfl⟩
          show (y 10 == some false) = false
          rw [yg]; rfl
        · have o4 : ρ (.tmp 4) = Value.pointer (some { block := y1.heap.size + 1, off := 0 }) := hout (.tmp 4) rfl
          have yg : y 10 = some (!true) := (hdep ⟨10, .guard⟩ (by simp) rfl).2 31 rfl
          have ocn : ∀ v, ρ (.const v) = v := fun v => hout (.const v) rfl
          have ofn : ∀ f, ρ (.func f) = .func (.func f) #[] #[] := fun f => hout (.func f) rfl
          clear hdep hout
          refine .inl ⟨?_, ?_⟩
          · show (y 10 == some false) = true
            rw [yg]; rfl
          obtain ⟨n, c0, c1, c2, f0, f1, f2⟩ := SB.later hBx
          show Gives _ _ _ (.agg #[.bool b, .int .i64 bl, .int .i64 bh]) _
          refine Gives.val ?_
          go_simp
      rcases i with _ | i
      · obtain rfl := Option.some.inj ho
        cases oa
        · have e11 : ρ (.tmp 32) = undef := (hdep ⟨11, .data⟩ (by simp) rfl).1 32 rfl
          have yg : y 10 = some (!false) := (hdep ⟨10, .guard⟩ (by simp) rfl).2 31 rfl
          have ocn : ∀ v, ρ (.const v) = v := fun v => hout (.const v) rfl
          have ofn : ∀ f, ρ (.func f) = .func (.func f) #[] #[] := fun f => hout (.func f) rfl
          clear hdep hout
          refine .inr ⟨?_, rfl⟩
          show (y 10 == some false) = false
          rw [yg]; rfl
        · have e11 : ρ (.tmp 32) = .agg #[.bool b, .int .i64 bl, .int .i64 bh] := (hdep ⟨11, .data⟩ (by simp) rfl).1 32 rfl
          have yg : y 10 = some (!true) := (hdep ⟨10, .guard⟩ (by simp) rfl).2 31 rfl
          have ocn : ∀ v, ρ (.const v) = v := fun v => hout (.const v) rfl
          have ofn : ∀ f, ρ (.func f) = .func (.func f) #[] #[] := fun f => hout (.func f) rfl
          clear hdep hout
          refine .inl ⟨?_, ?_⟩
          · show (y 10 == some false) = true
            rw [yg]; rfl
          show Gives _ _ _ (.bool ob) _
          refine Gives.call (ok_at Hob.out x) ?_
          go_simp
      rcases i with _ | i
      · obtain rfl := Option.some.inj ho
        cases oa
        · have e12 : ρ (.tmp 33) = undef := (hdep ⟨12, .data⟩ (by simp) rfl).1 33 rfl
          have yg : y 10 = some (!false) := (hdep ⟨10, .guard⟩ (by simp) rfl).2 31 rfl
          have ocn : ∀ v, ρ (.const v) = v := fun v => hout (.const v) rfl
          have ofn : ∀ f, ρ (.func f) = .func (.func f) #[] #[] := fun f => hout (.func f) rfl
          clear hdep hout
          refine .inr ⟨?_, rfl⟩
          show (y 10 == some false) = false
          rw [yg]; rfl
        · have e12 : ρ (.tmp 33) = .bool ob := (hdep ⟨12, .data⟩ (by simp) rfl).1 33 rfl
          have yg : y 10 = some (!true) := (hdep ⟨10, .guard⟩ (by simp) rfl).2 31 rfl
          have ocn : ∀ v, ρ (.const v) = v := fun v => hout (.const v) rfl
          have ofn : ∀ f, ρ (.func f) = .func (.func f) #[] #[] := fun f => hout (.func f) rfl
          clear hdep hout
          refine .inl ⟨?_, ?_⟩
          · show (y 10 == some false) = true
            rw [yg]; rfl
          show Gives _ _ _ (.bool (!ob)) _
          refine Gives.val ?_
          go_simp
      rcases i with _ | i
      · obtain rfl := Option.some.inj ho
        cases oa
        · obtain rfl := HE2.out
          have e10 : ρ (.tmp 31) = .bool (!false) := (hdep ⟨10, .data⟩ (by simp) rfl).1 31 rfl
          have e13 : ρ (.tmp 34) = undef := (hdep ⟨13, .data⟩ (by simp) rfl).1 34 rfl
          have ocn : ∀ v, ρ (.const v) = v := fun v => hout (.const v) rfl
          have ofn : ∀ f, ρ (.func f) = .func (.func f) #[] #[] := fun f => hout (.func f) rfl
          clear hdep hout
          refine .inl ⟨?_, ?_⟩
          · rfl
          show Gives _ _ _ (.bool (!(false && ob))) _
          refine Gives.val ?_
          go_simp
        · obtain rfl := HE2.out
          have e10 : ρ (.tmp 31) = .bool (!true) := (hdep ⟨10, .data⟩ (by simp) rfl).1 31 rfl
          have e13 : ρ (.tmp 34) = .bool (!ob) := (hdep ⟨13, .data⟩ (by simp) rfl).1 34 rfl
          have ocn : ∀ v, ρ (.const v) = v := fun v => hout (.const v) rfl
          have ofn : ∀ f, ρ (.func f) = .func (.func f) #[] #[] := fun f => hout (.func f) rfl
          clear hdep hout
          refine .inl ⟨?_, ?_⟩
          · rfl
          show Gives _ _ _ (.bool (!(true && ob))) _
          refine Gives.val ?_
          go_simp
      cases ho
    case fin =>
      intro x hBx
      go_wp2_with fail
      go_meet
      exact ⟨rfl, hBo.trans (hBx.mono hBo.size), SA.later hBx, SB.later hBx, SX.later hBx⟩
  case rest =>
  clear SA SB SX hB hBo
  obtain ⟨rfl, hB, SA, SB, SX⟩ := hcut
  cases g2
  · go_wp2_with fail
    refine wp_region_vals (by kernel_rfl) (by kernel_rfl) (by kernel_rfl) (by kernel_rfl) (fun j => [.agg #[.bool j1, .int .i64 j2, .int .i64 j3], .agg #[.bool a, .int .i64 al, .int .i64 ah], .agg #[.bool b, .int .i64 bl, .int .i64 bh], .agg #[.bool j1, .int .i64 j2, .int .i64 j3], .bool true, .bool true].getD j undef) wc (Below.drew (Below.refl _ _)) ?step ⟨#[Value.slice a0 len0 cap0, undef, .bool true, Value.pointer (some { block := y1.heap.size, off := 0 }), Value.pointer (some { block := y1.heap.size + 1, off := 0 }), Value.pointer (some { block := y3.heap.size, off := 0 }), undef, undef, undef, undef, u10, u11, u12, u13, u14, u15, u16, u17, u18, u19, u20, u21, u22, u23, u24, u25, u26, u27, u28, u29, u30, u31, u32, u33, u34, Value.bool !false, .agg #[.bool j1, .int .i64 j2, .int .i64 j3], .agg #[.bool a, .int .i64 al, .int .i64 ah], .agg #[.bool b, .int .i64 bl, .int .i64 bh], .agg #[.bool j1, .int .i64 j2, .int .i64 j3], .bool true, u41, u42, u43, u44, u45, u46, u47, u48, u49, u50, u51, u52, u53, u54, u55, u56, u57, u58, u59, u60, u61, u62, u63, u64, u65, u66], []⟩ (by kernel_rfl) ?fin
    case step =>
      intro i o ho ρ y x hBx hdep hout
      rcases i with _ | i
      · obtain rfl := Option.some.inj ho
        have o5 : ρ (.tmp 5) = Value.pointer (some { block := y3.heap.size, off := 0 }) := hout (.tmp 5) rfl
        have ocn : ∀ v, ρ (.const v) = v := fun v => hout (.const v) rfl
        have ofn : ∀ f, ρ (.func f) = .func (.func f) #[] #[] := fun f => hout (.func f) rfl
        clear hdep hout
        refine .inl ⟨?_, ?_⟩
        · rfl
        obtain ⟨n, c0, c1, c2, f0, f1, f2⟩ := SX.later hBx
        show Gives _ _ _ (.agg #[.bool j1, .int .i64 j2, .int .i64 j3]) _
        refine Gives.val ?_
        go_simp
      rcases i with _ | i
      · obtain rfl := Option.some.inj ho
        have o3 : ρ (.tmp 3) = Value.pointer (some { block := y1.heap.size, off := 0 }) := hout (.tmp 3) rfl
        have ocn : ∀ v, ρ (.const v) = v := fun v => hout (.const v) rfl
        have ofn : ∀ f, ρ (.func f) = .func (.func f) #[] #[] := fun f => hout (.func f) rfl
        clear hdep hout
        refine .inl ⟨?_, ?_⟩
        · rfl
        obtain ⟨n, c0, c1, c2, f0, f1, f2⟩ := SA.later hBx
        show Gives _ _ _ (.agg #[.bool a, .int .i64 al, .int .i64 ah]) _
        refine Gives.val ?_
        go_simp
      rcases i with _ | i
      · obtain rfl := Option.some.inj ho
        have o4 : ρ (.tmp 4) = Value.pointer (some { block := y1.heap.size + 1, off := 0 }) := hout (.tmp 4) rfl
        have ocn : ∀ v, ρ (.const v) = v := fun v => hout (.const v) rfl
        have ofn : ∀ f, ρ (.func f) = .func (.func f) #[] #[] := fun f => hout (.func f) rfl
        clear hdep hout
        refine .inl ⟨?_, ?_⟩
        · rfl
        obtain ⟨n, c0, c1, c2, f0, f1, f2⟩ := SB.later hBx
        show Gives _ _ _ (.agg #[.bool b, .int .i64 bl, .int .i64 bh]) _
        refine Gives.val ?_
        go_simp
      rcases i with _ | i
      · obtain rfl := Option.some.inj ho
        have e1 : ρ (.tmp 37) = .agg #[.bool a, .int .i64 al, .int .i64 ah] := (hdep ⟨1, .data⟩ (by simp) rfl).1 37 rfl
        have e2 : ρ (.tmp 38) = .agg #[.bool b, .int .i64 bl, .int .i64 bh] := (hdep ⟨2, .data⟩ (by simp) rfl).1 38 rfl
        have ocn : ∀ v, ρ (.const v) = v := fun v => hout (.const v) rfl
        have ofn : ∀ f, ρ (.func f) = .func (.func f) #[] #[] := fun f => hout (.func f) rfl
        clear hdep hout
        refine .inl ⟨?_, ?_⟩
        · rfl
        show Gives _ _ _ (.agg #[.bool j1, .int .i64 j2, .int .i64 j3]) _
        refine Gives.call (wideT_at hX.out x) ?_
        go_simp
      rcases i with _ | i
      · obtain rfl := Option.some.inj ho
        have e0 : ρ (.tmp 36) = .agg #[.bool j1, .int .i64 j2, .int .i64 j3] := (hdep ⟨0, .data⟩ (by simp) rfl).1 36 rfl
        have e3 : ρ (.tmp 39) = .agg #[.bool j1, .int .i64 j2, .int .i64 j3] := (hdep ⟨3, .data⟩ (by simp) rfl).1 39 rfl
        have ocn : ∀ v, ρ (.const v) = v := fun v => hout (.const v) rfl
        have ofn : ∀ f, ρ (.func f) = .func (.func f) #[] #[] := fun f => hout (.func f) rfl
        clear hdep hout
        refine .inl ⟨?_, ?_⟩
        · rfl
        show Gives _ _ _ (.bool true) _
        refine Gives.val ?_
        go_simp
      rcases i with _ | i
      · obtain rfl := Option.some.inj ho
        have e4 : ρ (.tmp 40) = .bool true := (hdep ⟨4, .data⟩ (by simp) rfl).1 40 rfl
        have ocn : ∀ v, ρ (.const v) = v := fun v => hout (.const v) rfl
        have ofn : ∀ f, ρ (.func f) = .func (.func f) #[] #[] := fun f => hout (.func f) rfl
        clear hdep hout
        refine .inl ⟨?_, ?_⟩
        · rfl
        show Gives _ _ _ (.bool true) _
        refine Gives.val ?_
        go_simp
      cases ho
    case fin =>
      intro x hBx
      go_wp2_with fail
      go_ret
      exact ⟨rfl, hB.trans (hBx.mono hB.size)⟩
  · obtain ⟨e0, e1⟩ := HG.out rfl
    subst e0 e1
    clear HG HE2 SX
    have hbt0 : y1.heap.size + 1 < wc.heap.size := SB.lt
    have hwt : w.heap.size ≤ wc.heap.size := hB.size
    obtain ⟨nA, c0A, c1A, c2A, f0A, f1A, f2A⟩ := id SA
    go_wp2_with fail
    clear nA c0A c1A c2A f0A f1A f2A
    have hG : Below wc.heap.size wc (wc.alloc (.cells #[.bool a, .int .i64 al, .int .i64 ah] 24)) := by go_grown
    replace SA := SA.later hG
    replace SB := SB.later hG
    have ST : Sp3 (wc.alloc (.cells #[.bool a, .int .i64 al, .int .i64 ah] 24)) (wc.heap.size) a al ah := ⟨by go_size, by simp [go_sem], by simp [go_sem], by simp [go_sem], by simp [go_sem], by simp [go_sem], by simp [go_sem]⟩
    replace hB := hB.trans (hG.mono hB.size)
    clear hG
    generalize hgen : (wc.alloc (.cells #[.bool a, .int .i64 al, .int .i64 ah] 24)) = y5 at SA SB ST  hB ⊢
    generalize wc.heap.size = bt at hbt0 hwt ST ⊢
    go_loopw [6, 8] (fun s6 s8 x => ∃ (k n : Int) (t : Bool) (tl th : Int), 0 ≤ k ∧ k ≤ 40 ∧ s8 = .int .i64 k ∧ s6 = .int .i64 n ∧ 0 ≤ n ∧ n + pot t tl th ≤ 7 ∧ Hid (okF t tl th = true) ∧ Below w.heap.size w x ∧ Sp3 x (y1.heap.size + 1) b bl bh ∧ Sp3 x (bt) t tl th) (fun _ s8 _ => (40 - intOf s8).toNat)
    case atStart => exact ⟨0, 0, a, al, ah, by omega, by omega, rfl, rfl, by omega, by have := (pot_bd a al ah).2; omega, Hoa.out, hB, SB, ST⟩
    case round =>
      clear SA SB ST hB
      obtain ⟨k, n, t, tl, th, k0, k1, rfl, rfl, n0, n1, Hot, hB, SB, ST⟩ := hrel
      have pb := (pot_bd t tl th).1
      by_cases hlt : k < 40
      · obtain ⟨u1, u2, u3, hU⟩ : ∃ u1 u2 u3, Hid (wideF t tl th true (wrapF (k * 7 + k / 5 * 3 + bl)) (wrapF (k * 7 + k / 5 * 3 + bl)) = (u1, u2, u3)) := ⟨_, _, _, rfl⟩
        have HP := wide_pot Hot.out (ok_word (wrap_word (k * 7 + k / 5 * 3 + bl))) hU.out
        obtain ⟨hok, rfl, hpt⟩ := HP
        have HOK : Hid (okF true u2 u3 = true) := hok
        clear hok
        have HPT : Hid ((t = true ∧ u2 = tl ∧ u3 = th) ∨ pot true u2 u3 + 1 ≤ pot t tl th) := hpt
        clear hpt
        have HN1 : Hid (n + pot t tl th ≤ 7) := n1
        have HPB : Hid (0 ≤ pot t tl th) := pb
        have hn7 : n ≤ 7 := by omega
        clear n1 pb
        have k5 : k.tdiv 5 = k / 5 := Int.tdiv_eq_ediv_of_nonneg (by omega)
        have s1 : IntKind.i64.wrap (k * 7) = k * 7 := IntWalk.i64_in _ (by omega)
        have s2 : IntKind.i64.wrap (k.tdiv 5) = k / 5 := by rw [k5]; exact IntWalk.i64_in _ (by omega)
        have s2b : IntKind.i64.wrap (k / 5) = k / 5 := IntWalk.i64_in _ (by omega)
        have s3 : IntKind.i64.wrap (k / 5 * 3) = k / 5 * 3 := IntWalk.i64_in _ (by omega)
        have s4 : IntKind.i64.wrap (k * 7 + k / 5 * 3) = k * 7 + k / 5 * 3 := IntWalk.i64_in _ (by omega)
        have s5 : IntKind.i64.wrap (k * 7 + k / 5 * 3 + bl) = k * 7 + k / 5 * 3 + bl := IntWalk.i64_in _ (by omega)
        clear k5
        go_wp2_with fail
        have hBo := hB
        go_cut [9] (fun s9 x => ∃ m : Nat, s9 = .pointer (some ⟨m, 0, none⟩) ∧ Below w.heap.size w x ∧ Sp3 x (y1.heap.size + 1) b bl bh ∧ Sp3 x (bt) t tl th ∧ Sp3 x m true u2 u3)
        case first =>
          refine wp_region_inv (by kernel_rfl) (by kernel_rfl) (WE12 (fun s46 s47 s48 s49 s50 s51 s52 s53 s54 s55 s56 s57 s58 s9 => ⟨#[Value.slice a0 len0 cap0, undef, Value.bool false, Value.pointer (some { block := y1.heap.size, off := 0 }), Value.pointer (some { block := y1.heap.size + 1, off := 0 }), Value.pointer (some { block := y3.heap.size, off := 0 }), Value.int IntKind.i64 n, Value.pointer (some { block := bt, off := 0 }), Value.int IntKind.i64 k, s9, u10, u11, u12, u13, u14, u15, u16, u17, u18, u19, u20, u21, u22, u23, u24, u25, u26, u27, u28, u29, u30, u31, u32, u33, u34, Value.bool !true, u36, u37, u38, u39, u40, Value.agg #[Value.bool a, Value.int IntKind.i64 al, Value.int IntKind.i64 ah], Value.int IntKind.i64 k, Value.bool true, u44, u45, s46, s47, s48, s49, s50, s51, s52, s53, s54, s55, s56, s57, s58, u59, u60, u61, u62, u63, u64, u65, u66], []⟩) wr (.agg #[.bool t, .int .i64 tl, .int .i64 th]) (.int .i64 k) (.int .i64 (k * 7)) (.int .i64 k) (.int .i64 (k / 5)) (.int .i64 (k / 5 * 3)) (.int .i64 (k * 7 + k / 5 * 3)) (.pointer (some ⟨y1.heap.size + 1, 1, none⟩)) (.int .i64 bl) (.int .i64 (k * 7 + k / 5 * 3 + bl)) (.int .i64 (wrapF (k * 7 + k / 5 * 3 + bl))) (.agg #[.bool true, .int .i64 (wrapF (k * 7 + k / 5 * 3 + bl)), .int .i64 (wrapF (k * 7 + k / 5 * 3 + bl))]) (.agg #[.bool true, .int .i64 u2, .int .i64 u3]) (true, u2, u3)) ?start ?step ?fin
          case start =>
            exact ⟨false, false, false, false, false, false, false, false, false, false, false, false, false, false, false, _, _, _, _, _, _, _, _, _, _, _, _, _, _, rfl, rfl, Below.drew (Below.refl _ _), Sl.no, Sl.no, Sl.no, Sl.no, Sl.no, Sl.no, Sl.no, Sl.no, Sl.no, Sl.no, Sl.no, Sl.no, Sl.no, PF.non⟩
          case step =>
            intro listed a x hI i o ho hun hpre
            obtain ⟨b0, b1, b2, b3, b4, b5, b6, b7, b8, b9, b10, b11, b12, b13, b14, s46, s47, s48, s49, s50, s51, s52, s53, s54, s55, s56, s57, s58, s9, rfl, rfl, hBx, h0, h1, h2, h3, h4, h5, h6, h7, h8, h9, h10, h11, h12, p0⟩ := hI
            rcases i with _ | i
            · obtain rfl := Option.some.inj ho
              refine wpOp_yes ho (by rfl) fun K hK => ?_
              clear ho hpre
              obtain ⟨n, c0, c1, c2, f0, f1, f2⟩ := ST.later hBx
              go_simp
              exact hK _ _ ⟨true, b1, b2, b3, b4, b5, b6, b7, b8, b9, b10, b11, b12, b13, b14, _, s47, s48, s49, s50, s51, s52, s53, s54, s55, s56, s57, s58, s9, rfl, rfl, hBx, Sl.mk rfl, h1, h2, h3, h4, h5, h6, h7, h8, h9, h10, h11, h12, p0⟩
            rcases i with _ | i
            · obtain rfl := Option.some.inj ho
              refine wpOp_yes ho (by rfl) fun K hK => ?_
              clear ho hpre
              go_simp
              exact hK _ _ ⟨b0, true, b2, b3, b4, b5, b6, b7, b8, b9, b10, b11, b12, b13, b14, s46, _, s48, s49, s50, s51, s52, s53, s54, s55, s56, s57, s58, s9, rfl, rfl, hBx, h0, Sl.mk rfl, h2, h3, h4, h5, h6, h7, h8, h9, h10, h11, h12, p0⟩
            rcases i with _ | i
            · obtain rfl := Option.some.inj ho
              have q1 : b1 = true := hpre ⟨1, .data⟩ (by simp) rfl
              have e1 : s47 = .int .i64 k := h1.at_ q1
              subst e1
              refine wpOp_yes ho (by rfl) fun K hK => ?_
              clear ho hpre
              go_simp
              exact hK _ _ ⟨b0, b1, true, b3, b4, b5, b6, b7, b8, b9, b10, b11, b12, b13, b14, s46, _, _, s49, s50, s51, s52, s53, s54, s55, s56, s57, s58, s9, rfl, rfl, hBx, h0, h1, Sl.mk rfl, h3, h4, h5, h6, h7, h8, h9, h10, h11, h12, p0⟩
            rcases i with _ | i
            · obtain rfl := Option.some.inj ho
              refine wpOp_yes ho (by rfl) fun K hK => ?_
              clear ho hpre
              go_simp
              exact hK _ _ ⟨b0, b1, b2, true, b4, b5, b6, b7, b8, b9, b10, b11, b12, b13, b14, s46, s47, s48, _, s50, s51, s52, s53, s54, s55, s56, s57, s58, s9, rfl, rfl, hBx, h0, h1, h2, Sl.mk rfl, h4, h5, h6, h7, h8, h9, h10, h11, h12, p0⟩
            rcases i with _ | i
            · obtain rfl := Option.some.inj ho
              have q3 : b3 = true := hpre ⟨3, .data⟩ (by simp) rfl
              have e3 : s49 = .int .i64 k := h3.at_ q3
              subst e3
              refine wpOp_yes ho (by rfl) fun K hK => ?_
              clear ho hpre
              go_simp
              exact hK _ _ ⟨b0, b1, b2, b3, true, b5, b6, b7, b8, b9, b10, b11, b12, b13, b14, s46, s47, s48, _, _, s51, s52, s53, s54, s55, s56, s57, s58, s9, rfl, rfl, hBx, h0, h1, h2, h3, Sl.mk rfl, h5, h6, h7, h8, h9, h10, h11, h12, p0⟩
            rcases i with _ | i
            · obtain rfl := Option.some.inj ho
              have q4 : b4 = true := hpre ⟨4, .data⟩ (by simp) rfl
              have e4 : s50 = .int .i64 (k / 5) := h4.at_ q4
              subst e4
              refine wpOp_yes ho (by rfl) fun K hK => ?_
              clear ho hpre
              go_simp
              exact hK _ _ ⟨b0, b1, b2, b3, b4, true, b6, b7, b8, b9, b10, b11, b12, b13, b14, s46, s47, s48, s49, _, _, s52, s53, s54, s55, s56, s57, s58, s9, rfl, rfl, hBx, h0, h1, h2, h3, h4, Sl.mk rfl, h6, h7, h8, h9, h10, h11, h12, p0⟩
            rcases i with _ | i
            · obtain rfl := Option.some.inj ho
              have q2 : b2 = true := hpre ⟨2, .data⟩ (by simp) rfl
              have q5 : b5 = true := hpre ⟨5, .data⟩ (by simp) rfl
              have e2 : s48 = .int .i64 (k * 7) := h2.at_ q2
              subst e2
              have e5 : s51 = .int .i64 (k / 5 * 3) := h5.at_ q5
              subst e5
              refine wpOp_yes ho (by rfl) fun K hK => ?_
              clear ho hpre
              go_simp
              exact hK _ _ ⟨b0, b1, b2, b3, b4, b5, true, b7, b8, b9, b10, b11, b12, b13, b14, s46, s47, _, s49, s50, _, _, s53, s54, s55, s56, s57, s58, s9, rfl, rfl, hBx, h0, h1, h2, h3, h4, h5, Sl.mk rfl, h7, h8, h9, h10, h11, h12, p0⟩
            rcases i with _ | i
            · obtain rfl := Option.some.inj ho
              refine wpOp_yes ho (by rfl) fun K hK => ?_
              clear ho hpre
              go_simp
              exact hK _ _ ⟨b0, b1, b2, b3, b4, b5, b6, true, b8, b9, b10, b11, b12, b13, b14, s46, s47, s48, s49, s50, s51, s52, _, s54, s55, s56, s57, s58, s9, rfl, rfl, hBx, h0, h1, h2, h3, h4, h5, h6, Sl.mk rfl, h8, h9, h10, h11, h12, p0⟩
            rcases i with _ | i
            · obtain rfl := Option.some.inj ho
              have q7 : b7 = true := hpre ⟨7, .data⟩ (by simp) rfl
              have e7 : s53 = .pointer (some ⟨y1.heap.size + 1, 1, none⟩) := h7.at_ q7
              subst e7
              refine wpOp_yes ho (by rfl) fun K hK => ?_
              clear ho hpre
              obtain ⟨n, c0, c1, c2, f0, f1, f2⟩ := SB.later hBx
              go_simp
              exact hK _ _ ⟨b0, b1, b2, b3, b4, b5, b6, b7, true, b9, b10, b11, b12, b13, b14, s46, s47, s48, s49, s50, s51, s52, _, _, s55, s56, s57, s58, s9, rfl, rfl, hBx, h0, h1, h2, h3, h4, h5, h6, h7, Sl.mk rfl, h9, h10, h11, h12, p0⟩
            rcases i with _ | i
            · obtain rfl := Option.some.inj ho
              have q6 : b6 = true := hpre ⟨6, .data⟩ (by simp) rfl
              have q8 : b8 = true := hpre ⟨8, .data⟩ (by simp) rfl
              have e6 : s52 = .int .i64 (k * 7 + k / 5 * 3) := h6.at_ q6
              subst e6
              have e8 : s54 = .int .i64 bl := h8.at_ q8
              subst e8
              refine wpOp_yes ho (by rfl) fun K hK => ?_
              clear ho hpre
              go_simp
              exact hK _ _ ⟨b0, b1, b2, b3, b4, b5, b6, b7, b8, true, b10, b11, b12, b13, b14, s46, s47, s48, s49, s50, s51, _, s53, _, _, s56, s57, s58, s9, rfl, rfl, hBx, h0, h1, h2, h3, h4, h5, h6, h7, h8, Sl.mk rfl, h10, h11, h12, p0⟩
            rcases i with _ | i
            · obtain rfl := Option.some.inj ho
              have q9 : b9 = true := hpre ⟨9, .data⟩ (by simp) rfl
              have e9 : s55 = .int .i64 (k * 7 + k / 5 * 3 + bl) := h9.at_ q9
              subst e9
              refine wpOp_yes ho (by rfl) fun K hK => ?_
              clear ho hpre
              go_simp
              refine (wrap_at _ _).mono ?_
              rintro e w' ⟨rfl, hbx⟩
              exact hK _ _ ⟨b0, b1, b2, b3, b4, b5, b6, b7, b8, b9, true, b11, b12, b13, b14, s46, s47, s48, s49, s50, s51, s52, s53, s54, _, _, s57, s58, s9, rfl, rfl, hBx.trans (hbx.mono hBx.size), h0, h1, h2, h3, h4, h5, h6, h7, h8, h9, Sl.mk rfl, h11, h12, p0.later hbx⟩
            rcases i with _ | i
            · obtain rfl := Option.some.inj ho
              have q10 : b10 = true := hpre ⟨10, .data⟩ (by simp) rfl
              have e10 : s56 = .int .i64 (wrapF (k * 7 + k / 5 * 3 + bl)) := h10.at_ q10
              subst e10
              refine wpOp_yes ho (by rfl) fun K hK => ?_
              clear ho hpre
              go_simp
              refine (of_at (wrap_word _) _).mono ?_
              rintro e w' ⟨rfl, hbx⟩
              exact hK _ _ ⟨b0, b1, b2, b3, b4, b5, b6, b7, b8, b9, b10, true, b12, b13, b14, s46, s47, s48, s49, s50, s51, s52, s53, s54, s55, _, _, s58, s9, rfl, rfl, hBx.trans (hbx.mono hBx.size), h0, h1, h2, h3, h4, h5, h6, h7, h8, h9, h10, Sl.mk rfl, h12, p0.later hbx⟩
            rcases i with _ | i
            · obtain rfl := Option.some.inj ho
              have q0 : b0 = true := hpre ⟨0, .data⟩ (by simp) rfl
              have q11 : b11 = true := hpre ⟨11, .data⟩ (by simp) rfl
              have e0 : s46 = .agg #[.bool t, .int .i64 tl, .int .i64 th] := h0.at_ q0
              subst e0
              have e11 : s57 = .agg #[.bool true, .int .i64 (wrapF (k * 7 + k / 5 * 3 + bl)), .int .i64 (wrapF (k * 7 + k / 5 * 3 + bl))] := h11.at_ q11
              subst e11
              refine wpOp_yes ho (by rfl) fun K hK => ?_
              clear ho hpre
              go_simp
              refine (wide_at hU.out _).mono ?_
              rintro e w' ⟨rfl, hbx⟩
              exact hK _ _ ⟨b0, b1, b2, b3, b4, b5, b6, b7, b8, b9, b10, b11, true, b13, b14, _, s47, s48, s49, s50, s51, s52, s53, s54, s55, s56, _, _, s9, rfl, rfl, hBx.trans (hbx.mono hBx.size), h0, h1, h2, h3, h4, h5, h6, h7, h8, h9, h10, h11, Sl.mk rfl, p0.later hbx⟩
            rcases i with _ | i
            · obtain rfl := Option.some.inj ho
              refine wpOp_yes ho (by rfl) fun K hK => ?_
              clear ho hpre
              have e : b13 = false := hun
              subst e
              clear hun
              go_simp
              exact hK _ _ ⟨b0, b1, b2, b3, b4, b5, b6, b7, b8, b9, b10, b11, b12, true, b14, s46, s47, s48, s49, s50, s51, s52, s53, s54, s55, s56, s57, s58, _, rfl, rfl, hBx.alloc hBx.size _, h0, h1, h2, h3, h4, h5, h6, h7, h8, h9, h10, h11, h12, p0.made hBx _ _ _⟩
            rcases i with _ | i
            · obtain rfl := Option.some.inj ho
              have q13 : b13 = true := hpre ⟨13, .data⟩ (by simp) rfl
              have q12 : b12 = true := hpre ⟨12, .data⟩ (by simp) rfl
              have e12 : s58 = .agg #[.bool true, .int .i64 u2, .int .i64 u3] := h12.at_ q12
              subst e12
              refine wpOp_yes ho (by rfl) fun K hK => ?_
              clear ho hpre
              obtain ⟨m, a0, l0, u0, e0, hm, sp, _⟩ := p0.at_ q13
              subst e0
              subst q13
              obtain ⟨n, c0, c1, c2, f0, f1, f2⟩ := id sp
              go_simp
              exact hK _ _ ⟨b0, b1, b2, b3, b4, b5, b6, b7, b8, b9, b10, b11, b12, true, true, s46, s47, s48, s49, s50, s51, s52, s53, s54, s55, s56, s57, _, _, rfl, rfl, below_set3 hBx hm, h0, h1, h2, h3, h4, h5, h6, h7, h8, h9, h10, h11, h12, PF.set hm sp⟩
            cases ho
          case fin =>
            intro listed a x hI hall
            obtain ⟨b0, b1, b2, b3, b4, b5, b6, b7, b8, b9, b10, b11, b12, b13, b14, s46, s47, s48, s49, s50, s51, s52, s53, s54, s55, s56, s57, s58, s9, rfl, rfl, hBx, h0, h1, h2, h3, h4, h5, h6, h7, h8, h9, h10, h11, h12, p0⟩ := hI
            have q13 : b13 = true := hall 13 (by simp)
            have q14 : b14 = true := hall 14 (by simp)
            obtain ⟨mm0, a0, l0, u0, e0, hm0, sp0, hv0⟩ := p0.at_ q13
            have hv := hv0 q14
            obtain ⟨rfl, rfl, rfl⟩ : a0 = (true, u2, u3).1 ∧ l0 = (true, u2, u3).2.1 ∧ u0 = (true, u2, u3).2.2 := by rw [← hv]; exact ⟨rfl, rfl, rfl⟩
            clear hv hv0
            subst e0
            go_wp2_with fail
            go_meet
            exact ⟨mm0, rfl, hBo.trans (hBx.mono hBo.size), SB.later hBx, ST.later hBx, sp0⟩
        case rest =>
        clear SB ST hB hBo s1 s2 s2b s3 s4 s5
        obtain ⟨m, rfl, hB, SB, ST, SU⟩ := hcut
        have hbt : y1.heap.size + 1 ≠ bt := by omega
        have SBf := SB
        have STf := ST
        cases t
        · have hq : n + 1 + pot true u2 u3 ≤ 7 := by rcases HPT.out with h | h; exact absurd h.1 (by simp); have := HN1.out; omega
          have HQ : Hid (n + 1 + pot true u2 u3 ≤ 7) := hq
          have pb := (pot_bd true u2 u3).1
          clear hq
          obtain ⟨nT, c0T, c1T, c2T, f0T, f1T, f2T⟩ := id ST
          obtain ⟨nU, c0U, c1U, c2U, f0U, f1U, f2U⟩ := id SU
          go_wp2_with fail
          go_roundw
          case rel =>
            refine ⟨k + 1, n + 1, true, u2, u3, by omega, by omega, by go_num, by go_num, by omega, ?_, HOK.out, ?_, ?_, ?_⟩
            · exact HQ.out
            · exact below_set3 hB hwt
            · exact ((SBf.off hbt).off hbt).off hbt
            · exact STf.set
          case measure => simp [intOf]; omega
        · by_cases e2 : u2 = tl
          · by_cases e3 : u3 = th
            · subst e2 e3
              obtain ⟨nT, c0T, c1T, c2T, f0T, f1T, f2T⟩ := id ST
              obtain ⟨nU, c0U, c1U, c2U, f0U, f1U, f2U⟩ := id SU
              go_wp2_with fail
              go_roundw
              case rel =>
                refine ⟨k + 1, n, true, u2, u3, by omega, by omega, by go_num, by go_num, by omega, ?_, HOK.out, ?_, ?_, ?_⟩
                · exact HN1.out
                · exact below_set3 hB hwt
                · exact ((SBf.off hbt).off hbt).off hbt
                · exact STf.set
              case measure => simp [intOf]; omega
            · have hq : n + 1 + pot true u2 u3 ≤ 7 := by rcases HPT.out with h | h; exact absurd h.2.2 e3; have := HN1.out; omega
              have HQ : Hid (n + 1 + pot true u2 u3 ≤ 7) := hq
              clear hq
              subst e2
              have e3' : (u3 == th) = false := by simp [e3]
              obtain ⟨nT, c0T, c1T, c2T, f0T, f1T, f2T⟩ := id ST
              obtain ⟨nU, c0U, c1U, c2U, f0U, f1U, f2U⟩ := id SU
              go_wp2_with fail
              go_roundw
              case rel =>
                refine ⟨k + 1, n + 1, true, u2, u3, by omega, by omega, by go_num, by go_num, by omega, ?_, HOK.out, ?_, ?_, ?_⟩
                · exact HQ.out
                · exact below_set3 hB hwt
                · exact ((SBf.off hbt).off hbt).off hbt
                · exact STf.set
              case measure => simp [intOf]; omega
          · have hq : n + 1 + pot true u2 u3 ≤ 7 := by rcases HPT.out with h | h; exact absurd h.2.1 e2; have := HN1.out; omega
            have HQ : Hid (n + 1 + pot true u2 u3 ≤ 7) := hq
            clear hq
            have e2' : (u2 == tl) = false := by simp [e2]
            obtain ⟨nT, c0T, c1T, c2T, f0T, f1T, f2T⟩ := id ST
            obtain ⟨nU, c0U, c1U, c2U, f0U, f1U, f2U⟩ := id SU
            go_wp2_with fail
            go_roundw
            case rel =>
              refine ⟨k + 1, n + 1, true, u2, u3, by omega, by omega, by go_num, by go_num, by omega, ?_, HOK.out, ?_, ?_, ?_⟩
              · exact HQ.out
              · exact below_set3 hB hwt
              · exact ((SBf.off hbt).off hbt).off hbt
              · exact STf.set
            case measure => simp [intOf]; omega
      · have hn : n ≤ 7 := by omega
        go_wp2_with fail
        go_ret
        exact ⟨rfl, hB⟩

end Go.Proofs.Ytlnfjjciilieeaa
