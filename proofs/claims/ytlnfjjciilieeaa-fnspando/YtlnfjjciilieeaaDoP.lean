/-
  The walk of the law FnSpanDo.
-/
import Derived.Test.YtlnfjjciilieeaaOfP
import Derived.Test.YtlnfjjciilieeaaDrawM
import Derived.Test.YtlnfjjciilieeaaDoN
import Derived.Test.YtlnfjjciilieeaaUpd
import Derived.Test.YtlnfjjciilieeaaInv3
import Derived.Deep.DeepCutAuto
namespace Go.Proofs.Ytlnfjjciilieeaa
open Go.RowKit
set_option linter.unusedVariables false
set_option linter.unusedSimpArgs false

set_option maxRecDepth 100000 in
set_option maxHeartbeats 8000000 in
theorem spanDo_walk (a0 : Option Addr) (len0 cap0 : Nat) (z0 : List Int) (w : World) (h0 : IsRow w a0 len0 cap0 z0) :
    Calls Try.prog 6 #[.slice a0 len0 cap0] w fun e w' => e = .returned (.bool true) ∧ Below w.heap.size w w' := by
  have hm0 := row_len h0
  unfold maxLen at hm0
  by_cases hl0 : (1048576 : Int) < (len0 : Int)
  · clear h0
    go_enter Try.func6, Try.ntmps6
    go_wp2
    go_ret
    exact ⟨rfl, by go_grown⟩
  go_enter Try.func6, Try.ntmps6
  go_wp2_with fail
  refine (drawSpanDo_any a0 len0 cap0 z0 _ h0).mono ?_
  rintro e y1 hg
  obtain ⟨op, a, al, ah, b, bl, bh, rfl, _, _, _, _, _, _, _, _, hb⟩ := hg.it
  clear hg h0
  have hB := hb
  clear hb
  obtain ⟨j1, j2, j3, HX, Js, Ji⟩ := do_fix op a al ah b bl bh
  go_wp2_with fail
  have hG : Below y1.heap.size y1 ((y1.alloc (.cells #[.bool a, .int .i64 al, .int .i64 ah] 24)).alloc (.cells #[.bool b, .int .i64 bl, .int .i64 bh] 24)) := by go_grown
  have SA : Sp3 ((y1.alloc (.cells #[.bool a, .int .i64 al, .int .i64 ah] 24)).alloc (.cells #[.bool b, .int .i64 bl, .int .i64 bh] 24)) (y1.heap.size) a al ah := ⟨by go_size, by simp [go_sem], by simp [go_sem], by simp [go_sem], by simp [go_sem], by simp [go_sem], by simp [go_sem]⟩
  have SB : Sp3 ((y1.alloc (.cells #[.bool a, .int .i64 al, .int .i64 ah] 24)).alloc (.cells #[.bool b, .int .i64 bl, .int .i64 bh] 24)) (y1.heap.size + 1) b bl bh := ⟨by go_size, by simp [go_sem], by simp [go_sem], by simp [go_sem], by simp [go_sem], by simp [go_sem], by simp [go_sem]⟩
  replace hB := hB.trans (hG.mono hB.size)
  clear hG
  generalize hgen : ((y1.alloc (.cells #[.bool a, .int .i64 al, .int .i64 ah] 24)).alloc (.cells #[.bool b, .int .i64 bl, .int .i64 bh] 24)) = y2 at SA SB  hB ⊢
  refine (Ji.out _).mono ?_
  rintro e y3 ⟨rfl, hb⟩
  replace SA := SA.later hb
  replace SB := SB.later hb
  replace hB := hB.trans (hb.mono hB.size)
  clear hb
  obtain ⟨oa, Hoa⟩ : ∃ o, Hid (okF a al ah = o) := ⟨_, rfl⟩
  obtain ⟨ob, Hob⟩ : ∃ o, Hid (okF b bl bh = o) := ⟨_, rfl⟩
  obtain ⟨g2, hgg2⟩ : ∃ g, (oa && ob) = g := ⟨_, rfl⟩
  have HG : Hid (g2 = true → oa = true ∧ ob = true) := by intro h; rw [h] at hgg2; simp only [Bool.and_eq_true] at hgg2; exact ⟨hgg2.1, hgg2.2⟩
  have HE2 : Hid ((oa && ob) = g2) := hgg2
  clear hgg2
  go_upto_region 5 with fail
  have hG : Below y3.heap.size y3 (y3.alloc (.cells #[.bool j1, .int .i64 j2, .int .i64 j3] 24)) := by go_grown
  replace SA := SA.later hG
  replace SB := SB.later hG
  have SX : Sp3 (y3.alloc (.cells #[.bool j1, .int .i64 j2, .int .i64 j3] 24)) (y3.heap.size) j1 j2 j3 := ⟨by go_size, by simp [go_sem], by simp [go_sem], by simp [go_sem], by simp [go_sem], by simp [go_sem], by simp [go_sem]⟩
  replace hB := hB.trans (hG.mono hB.size)
  clear hG
  generalize hgen : (y3.alloc (.cells #[.bool j1, .int .i64 j2, .int .i64 j3] 24)) = y4 at SA SB SX  hB ⊢
  have hBo := hB
  go_cut [40] (fun s40 x => s40 = .bool (!g2) ∧ Below w.heap.size w x ∧ Sp3 x (y1.heap.size) a al ah ∧ Sp3 x (y1.heap.size + 1) b bl bh ∧ Sp3 x (y3.heap.size) j1 j2 j3)
  case first =>
    refine wp_region_vals (by kernel_rfl) (by kernel_rfl) (by kernel_rfl) (by kernel_rfl) (fun j => [.agg #[.bool j1, .int .i64 j2, .int .i64 j3], Value.int IntKind.i64 op, .agg #[.bool a, .int .i64 al, .int .i64 ah], .agg #[.bool b, .int .i64 bl, .int .i64 bh], .agg #[.bool j1, .int .i64 j2, .int .i64 j3], .bool false, .bool false, .agg #[.bool a, .int .i64 al, .int .i64 ah], .bool oa, .bool (!oa), .bool (!oa), .bool (!oa), bif oa then (.agg #[.bool b, .int .i64 bl, .int .i64 bh]) else undef, bif oa then (.bool ob) else undef, bif oa then (.bool (!ob)) else undef, .bool (!g2)].getD j undef) y4 (Below.drew (Below.refl _ _)) ?step ⟨#[Value.slice a0 len0 cap0, undef, Value.bool false, Value.int IntKind.i64 op, Value.pointer (some { block := y1.heap.size, off := 0 }), Value.pointer (some { block := y1.heap.size + 1, off := 0 }), Value.pointer (some { block := y3.heap.size, off := 0 }), undef, undef, undef, undef, undef, Value.slice a0 len0 cap0, Value.int IntKind.i64 ↑len0, Value.bool false, Value.tuple #[Value.int IntKind.i64 op, Value.agg #[Value.bool a, Value.int IntKind.i64 al, Value.int IntKind.i64 ah], Value.agg #[Value.bool b, Value.int IntKind.i64 bl, Value.int IntKind.i64 bh]], Value.slice a0 len0 cap0, Value.tuple #[Value.int IntKind.i64 op, Value.agg #[Value.bool a, Value.int IntKind.i64 al, Value.int IntKind.i64 ah], Value.agg #[Value.bool b, Value.int IntKind.i64 bl, Value.int IntKind.i64 bh]], Value.int IntKind.i64 op, Value.agg #[Value.bool a, Value.int IntKind.i64 al, Value.int IntKind.i64 ah], Value.agg #[Value.bool b, Value.int IntKind.i64 bl, Value.int IntKind.i64 bh], Value.int IntKind.i64 op, Value.agg #[Value.bool a, Value.int IntKind.i64 al, Value.int IntKind.i64 ah], Value.agg #[Value.bool b, Value.int IntKind.i64 bl, Value.int IntKind.i64 bh], Value.agg #[Value.bool j1, Value.int IntKind.i64 j2, Value.int IntKind.i64 j3], .agg #[.bool j1, .int .i64 j2, .int .i64 j3], Value.int IntKind.i64 op, .agg #[.bool a, .int .i64 al, .int .i64 ah], .agg #[.bool b, .int .i64 bl, .int .i64 bh], .agg #[.bool j1, .int .i64 j2, .int .i64 j3], .bool false, .bool false, .agg #[.bool a, .int .i64 al, .int .i64 ah], .bool oa, .bool (!oa), .bool (!oa), .bool (!oa), bif oa then (.agg #[.bool b, .int .i64 bl, .int .i64 bh]) else undef, bif oa then (.bool ob) else undef, bif oa then (.bool (!ob)) else undef, .bool (!g2), undef, undef, undef, undef, undef, undef, undef, undef, undef, undef, undef, undef, undef, undef, undef, undef, undef, undef, undef, undef, undef, undef, undef, undef, undef, undef, undef, undef, undef, undef, undef, undef, undef, undef, undef, undef, undef, undef, undef, undef, undef, undef, undef, undef, undef, undef, undef, undef, undef, undef], []⟩ (by kernel_rfl) ?fin
    case step =>
      intro i o ho ρ y x hBx hdep hout
      rcases i with _ | i
      · obtain rfl := Option.some.inj ho
        have o6 : ρ (.tmp 6) = Value.pointer (some { block := y3.heap.size, off := 0 }) := hout (.tmp 6) rfl
        have ocn : ∀ v, ρ (.const v) = v := fun v => hout (.const v) rfl
        have ofn : ∀ f, ρ (.func f) = .func (.func f) #[] #[] := fun f => hout (.func f) rfl
        clear hdep hout
        refine .inl ⟨?_, ?_⟩
        · rfl
        obtain ⟨n, c0, c1, c2, f0, f1, f2⟩ := SX.later hBx
        show Gives _ _ _ (.agg #[.bool j1, .int .i64 j2, .int .i64 j3]) _
        refine Gives.val ?_
        go_simp
      rcases i with _ | i
      · obtain rfl := Option.some.inj ho
        have o3 : ρ (.tmp 3) = Value.int IntKind.i64 op := hout (.tmp 3) rfl
        have ocn : ∀ v, ρ (.const v) = v := fun v => hout (.const v) rfl
        have ofn : ∀ f, ρ (.func f) = .func (.func f) #[] #[] := fun f => hout (.func f) rfl
        clear hdep hout
        refine .inl ⟨?_, ?_⟩
        · rfl
        show Gives _ _ _ (Value.int IntKind.i64 op) _
        refine Gives.val ?_
        go_simp
      rcases i with _ | i
      · obtain rfl := Option.some.inj ho
        have o4 : ρ (.tmp 4) = Value.pointer (some { block := y1.heap.size, off := 0 }) := hout (.tmp 4) rfl
        have ocn : ∀ v, ρ (.const v) = v := fun v => hout (.const v) rfl
        have ofn : ∀ f, ρ (.func f) = .func (.func f) #[] #[] := fun f => hout (.func f) rfl
        clear hdep hout
        refine .inl ⟨?_, ?_⟩
        · rfl
        obtain ⟨n, c0, c1, c2, f0, f1, f2⟩ := SA.later hBx
        show Gives _ _ _ (.agg #[.bool a, .int .i64 al, .int .i64 ah]) _
        refine Gives.val ?_
        go_simp
      rcases i with _ | i
      · obtain rfl := Option.some.inj ho
        have o5 : ρ (.tmp 5) = Value.pointer (some { block := y1.heap.size + 1, off := 0 }) := hout (.tmp 5) rfl
        have ocn : ∀ v, ρ (.const v) = v := fun v => hout (.const v) rfl
        have ofn : ∀ f, ρ (.func f) = .func (.func f) #[] #[] := fun f => hout (.func f) rfl
        clear hdep hout
        refine .inl ⟨?_, ?_⟩
        · rfl
        obtain ⟨n, c0, c1, c2, f0, f1, f2⟩ := SB.later hBx
        show Gives _ _ _ (.agg #[.bool b, .int .i64 bl, .int .i64 bh]) _
        refine Gives.val ?_
        go_simp
      rcases i with _ | i
      · obtain rfl := Option.some.inj ho
        have e1 : ρ (.tmp 26) = Value.int IntKind.i64 op := (hdep ⟨1, .data⟩ (by simp) rfl).1 26 rfl
        have e2 : ρ (.tmp 27) = .agg #[.bool a, .int .i64 al, .int .i64 ah] := (hdep ⟨2, .data⟩ (by simp) rfl).1 27 rfl
        have e3 : ρ (.tmp 28) = .agg #[.bool b, .int .i64 bl, .int .i64 bh] := (hdep ⟨3, .data⟩ (by simp) rfl).1 28 rfl
        have ocn : ∀ v, ρ (.const v) = v := fun v => hout (.const v) rfl
        have ofn : ∀ f, ρ (.func f) = .func (.func f) #[] #[] := fun f => hout (.func f) rfl
        clear hdep hout
        refine .inl ⟨?_, ?_⟩
        · rfl
        show Gives _ _ _ (.agg #[.bool j1, .int .i64 j2, .int .i64 j3]) _
        refine Gives.call (Js.out x) ?_
        go_simp
      rcases i with _ | i
      · obtain rfl := Option.some.inj ho
        have e0 : ρ (.tmp 25) = .agg #[.bool j1, .int .i64 j2, .int .i64 j3] := (hdep ⟨0, .data⟩ (by simp) rfl).1 25 rfl
        have e4 : ρ (.tmp 29) = .agg #[.bool j1, .int .i64 j2, .int .i64 j3] := (hdep ⟨4, .data⟩ (by simp) rfl).1 29 rfl
        have ocn : ∀ v, ρ (.const v) = v := fun v => hout (.const v) rfl
        have ofn : ∀ f, ρ (.func f) = .func (.func f) #[] #[] := fun f => hout (.func f) rfl
        clear hdep hout
        refine .inl ⟨?_, ?_⟩
        · rfl
        show Gives _ _ _ (.bool false) _
        refine Gives.val ?_
        go_simp
      rcases i with _ | i
      · obtain rfl := Option.some.inj ho
        have e5 : ρ (.tmp 30) = .bool false := (hdep ⟨5, .data⟩ (by simp) rfl).1 30 rfl
        have ocn : ∀ v, ρ (.const v) = v := fun v => hout (.const v) rfl
        have ofn : ∀ f, ρ (.func f) = .func (.func f) #[] #[] := fun f => hout (.func f) rfl
        clear hdep hout
        refine .inl ⟨?_, ?_⟩
        · rfl
        show Gives _ _ _ (.bool false) _
        refine Gives.val ?_
        go_simp
      rcases i with _ | i
      · obtain rfl := Option.some.inj ho
        have o4 : ρ (.tmp 4) = Value.pointer (some { block := y1.heap.size, off := 0 }) := hout (.tmp 4) rfl
        have yg : y 6 = some false := (hdep ⟨6, .guard⟩ (by simp) rfl).2 31 rfl
        have ocn : ∀ v, ρ (.const v) = v := fun v => hout (.const v) rfl
        have ofn : ∀ f, ρ (.func f) = .func (.func f) #[] #[] := fun f => hout (.func f) rfl
        clear hdep hout
        refine .inl ⟨?_, ?_⟩
        · show (y 6 == some false) = true
          rw [yg]; rfl
        obtain ⟨n, c0, c1, c2, f0, f1, f2⟩ := SA.later hBx
        show Gives _ _ _ (.agg #[.bool a, .int .i64 al, .int .i64 ah]) _
        refine Gives.val ?_
        go_simp
      rcases i with _ | i
      · obtain rfl := Option.some.inj ho
        have e7 : ρ (.tmp 32) = .agg #[.bool a, .int .i64 al, .int .i64 ah] := (hdep ⟨7, .data⟩ (by simp) rfl).1 32 rfl
        have yg : y 6 = some false := (hdep ⟨6, .guard⟩ (by simp) rfl).2 31 rfl
        have ocn : ∀ v, ρ (.const v) = v := fun v => hout (.const v) rfl
        have ofn : ∀ f, ρ (.func f) = .func (.func f) #[] #[] := fun f => hout (.func f) rfl
        clear hdep hout
        refine .inl ⟨?_, ?_⟩
        · show (y 6 == some false) = true
          rw [yg]; rfl
        show Gives _ _ _ (.bool oa) _
        refine Gives.call (ok_at Hoa.out x) ?_
        go_simp
      rcases i with _ | i
      · obtain rfl := Option.some.inj ho
        have e8 : ρ (.tmp 33) = .bool oa := (hdep ⟨8, .data⟩ (by simp) rfl).1 33 rfl
        have yg : y 6 = some false := (hdep ⟨6, .guard⟩ (by simp) rfl).2 31 rfl
        have ocn : ∀ v, ρ (.const v) = v := fun v => hout (.const v) rfl
        have ofn : ∀ f, ρ (.func f) = .func (.func f) #[] #[] := fun f => hout (.func f) rfl
        clear hdep hout
        refine .inl ⟨?_, ?_⟩
        · show (y 6 == some false) = true
          rw [yg]; rfl
        show Gives _ _ _ (.bool (!oa)) _
        refine Gives.val ?_
        go_simp
      rcases i with _ | i
      · obtain rfl := Option.some.inj ho
        have e6 : ρ (.tmp 31) = .bool false := (hdep ⟨6, .data⟩ (by simp) rfl).1 31 rfl
        have e9 : ρ (.tmp 34) = .bool (!oa) := (hdep ⟨9, .data⟩ (by simp) rfl).1 34 rfl
        have ocn : ∀ v, ρ (.const v) = v := fun v => hout (.const v) rfl
        have ofn : ∀ f, ρ (.func f) = .func (.func f) #[] #[] := fun f => hout (.func f) rfl
        clear hdep hout
        refine .inl ⟨?_, ?_⟩
        · rfl
        show Gives _ _ _ (.bool (!oa)) _
        refine Gives.val ?_
        go_simp
      rcases i with _ | i
      · obtain rfl := Option.some.inj ho
        have e10 : ρ (.tmp 35) = .bool (!oa) := (hdep ⟨10, .data⟩ (by simp) rfl).1 35 rfl
        have ocn : ∀ v, ρ (.const v) = v := fun v => hout (.const v) rfl
        have ofn : ∀ f, ρ (.func f) = .func (.func f) #[] #[] := fun f => hout (.func f) rfl
        clear hdep hout
        refine .inl ⟨?_, ?_⟩
        · rfl
        show Gives _ _ _ (.bool (!oa)) _
        refine Gives.val ?_
        go_simp
      rcases i with _ | i
      · obtain rfl := Option.some.inj ho
        cases oa
        · have o5 : ρ (.tmp 5) = Value.pointer (some { block := y1.heap.size + 1, off := 0 }) := hout (.tmp 5) rfl
          have yg : y 11 = some (!false) := (hdep ⟨11, .guard⟩ (by simp) rfl).2 36 rfl
          have ocn : ∀ v, ρ (.const v) = v := fun v => hout (.const v) rfl
          have ofn : ∀ f, ρ (.func f) = .func (.func f) #[] #[] := fun f => hout (.func f) rfl
          clear hdep hout
          refine .inr ⟨?_, rfl⟩
          show (y 11 == some false) = false
          rw [yg]; rfl
        · have o5 : ρ (.tmp 5) = Value.pointer (some { block := y1.heap.size + 1, off := 0 }) := hout (.tmp 5) rfl
          have yg : y 11 = some (!true) := (hdep ⟨11, .guard⟩ (by simp) rfl).2 36 rfl
          have ocn : ∀ v, ρ (.const v) = v := fun v => hout (.const v) rfl
          have ofn : ∀ f, ρ (.func f) = .func (.func f) #[] #[] := fun f => hout (.func f) rfl
          clear hdep hout
          refine .inl ⟨?_, ?_⟩
          · show (y 11 == some false) = true
            rw [yg]; rfl
          obtain ⟨n, c0, c1, c2, f0, f1, f2⟩ := SB.later hBx
          show Gives _ _ _ (.agg #[.bool b, .int .i64 bl, .int .i64 bh]) _
          refine Gives.val ?_
          go_simp
      rcases i with _ | i
      · obtain rfl := Option.some.inj ho
        cases oa
        · have e12 : ρ (.tmp 37) = undef := (hdep ⟨12, .data⟩ (by simp) rfl).1 37 rfl
          have yg : y 11 = some (!false) := (hdep ⟨11, .guard⟩ (by simp) rfl).2 36 rfl
          have ocn : ∀ v, ρ (.const v) = v := fun v => hout (.const v) rfl
          have ofn : ∀ f, ρ (.func f) = .func (.func f) #[] #[] := fun f => hout (.func f) rfl
          clear hdep hout
          refine .inr ⟨?_, rfl⟩
          show (y 11 == some false) = false
          rw [yg]; rfl
        · have e12 : ρ (.tmp 37) = .agg #[.bool b, .int .i64 bl, .int .i64 bh] := (hdep ⟨12, .data⟩ (by simp) rfl).1 37 rfl
          have yg : y 11 = some (!true) := (hdep ⟨11, .guard⟩ (by simp) rfl).2 36 rfl
          have ocn : ∀ v, ρ (.const v) = v := fun v => hout (.const v) rfl
          have ofn : ∀ f, ρ (.func f) = .func (.func f) #[] #[] := fun f => hout (.func f) rfl
          clear hdep hout
          refine .inl ⟨?_, ?_⟩
          · show (y 11 == some false) = true
            rw [yg]; rfl
          show Gives _ _ _ (.bool ob) _
          refine Gives.call (ok_at Hob.out x) ?_
          go_simp
      rcases i with _ | i
      · obtain rfl := Option.some.inj ho
        cases oa
        · have e13 : ρ (.tmp 38) = undef := (hdep ⟨13, .data⟩ (by simp) rfl).1 38 rfl
          have yg : y 11 = some (!false) := (hdep ⟨11, .guard⟩ (by simp) rfl).2 36 rfl
          have ocn : ∀ v, ρ (.const v) = v := fun v => hout (.const v) rfl
          have ofn : ∀ f, ρ (.func f) = .func (.func f) #[] #[] := fun f => hout (.func f) rfl
          clear hdep hout
          refine .inr ⟨?_, rfl⟩
          show (y 11 == some false) = false
          rw [yg]; rfl
        · have e13 : ρ (.tmp 38) = .bool ob := (hdep ⟨13, .data⟩ (by simp) rfl).1 38 rfl
          have yg : y 11 = some (!true) := (hdep ⟨11, .guard⟩ (by simp) rfl).2 36 rfl
          have ocn : ∀ v, ρ (.const v) = v := fun v => hout (.const v) rfl
          have ofn : ∀ f, ρ (.func f) = .func (.func f) #[] #[] := fun f => hout (.func f) rfl
          clear hdep hout
          refine .inl ⟨?_, ?_⟩
          · show (y 11 == some false) = true
            rw [yg]; rfl
          show Gives _ _ _ (.bool (!ob)) _
          refine Gives.val ?_
          go_simp
      rcases i with _ | i
      · obtain rfl := Option.some.inj ho
        cases oa
        · obtain rfl := HE2.out
          have e11 : ρ (.tmp 36) = .bool (!false) := (hdep ⟨11, .data⟩ (by simp) rfl).1 36 rfl
          have e14 : ρ (.tmp 39) = undef := (hdep ⟨14, .data⟩ (by simp) rfl).1 39 rfl
          have ocn : ∀ v, ρ (.const v) = v := fun v => hout (.const v) rfl
          have ofn : ∀ f, ρ (.func f) = .func (.func f) #[] #[] := fun f => hout (.func f) rfl
          clear hdep hout
          refine .inl ⟨?_, ?_⟩
          · rfl
          show Gives _ _ _ (.bool (!(false && ob))) _
          refine Gives.val ?_
          go_simp
        · obtain rfl := HE2.out
          have e11 : ρ (.tmp 36) = .bool (!true) := (hdep ⟨11, .data⟩ (by simp) rfl).1 36 rfl
          have e14 : ρ (.tmp 39) = .bool (!ob) := (hdep ⟨14, .data⟩ (by simp) rfl).1 39 rfl
          have ocn : ∀ v, ρ (.const v) = v := fun v => hout (.const v) rfl
          have ofn : ∀ f, ρ (.func f) = .func (.func f) #[] #[] := fun f => hout (.func f) rfl
          clear hdep hout
          refine .inl ⟨?_, ?_⟩
          · rfl
          show Gives _ _ _ (.bool (!(true && ob))) _
          refine Gives.val ?_
          go_simp
      cases ho
    case fin =>
      intro x hBx
      go_wp2_with fail
      go_meet
      exact ⟨rfl, hBo.trans (hBx.mono hBo.size), SA.later hBx, SB.later hBx, SX.later hBx⟩
  case rest =>
  clear SA SB SX hB hBo
  obtain ⟨rfl, hB, SA, SB, SX⟩ := hcut
  cases g2
  · go_wp2_with fail
    refine wp_region_vals (by kernel_rfl) (by kernel_rfl) (by kernel_rfl) (by kernel_rfl) (fun j => [.agg #[.bool j1, .int .i64 j2, .int .i64 j3], Value.int IntKind.i64 op, .agg #[.bool a, .int .i64 al, .int .i64 ah], .agg #[.bool b, .int .i64 bl, .int .i64 bh], .agg #[.bool j1, .int .i64 j2, .int .i64 j3], .bool true, .bool true].getD j undef) wc (Below.drew (Below.refl _ _)) ?step ⟨#[Value.slice a0 len0 cap0, undef, .bool true, Value.int IntKind.i64 op, Value.pointer (some { block := y1.heap.size, off := 0 }), Value.pointer (some { block := y1.heap.size + 1, off := 0 }), Value.pointer (some { block := y3.heap.size, off := 0 }), undef, undef, undef, undef, undef, u12, u13, u14, u15, u16, u17, u18, u19, u20, u21, u22, u23, u24, u25, u26, u27, u28, u29, u30, u31, u32, u33, u34, u35, u36, u37, u38, u39, Value.bool !false, .agg #[.bool j1, .int .i64 j2, .int .i64 j3], Value.int IntKind.i64 op, .agg #[.bool a, .int .i64 al, .int .i64 ah], .agg #[.bool b, .int .i64 bl, .int .i64 bh], .agg #[.bool j1, .int .i64 j2, .int .i64 j3], .bool true, u47, u48, u49, u50, u51, u52, u53, u54, u55, u56, u57, u58, u59, u60, u61, u62, u63, u64, u65, u66, u67, u68, u69, u70, u71, u72, u73, u74, u75, u76, u77, u78, u79, u80, u81, u82, u83, u84, u85, u86, u87, u88, u89, u90], []⟩ (by kernel_rfl) ?fin
    case step =>
      intro i o ho ρ y x hBx hdep hout
      rcases i with _ | i
      · obtain rfl := Option.some.inj ho
        have o6 : ρ (.tmp 6) = Value.pointer (some { block := y3.heap.size, off := 0 }) := hout (.tmp 6) rfl
        have ocn : ∀ v, ρ (.const v) = v := fun v => hout (.const v) rfl
        have ofn : ∀ f, ρ (.func f) = .func (.func f) #[] #[] := fun f => hout (.func f) rfl
        clear hdep hout
        refine .inl ⟨?_, ?_⟩
        · rfl
        obtain ⟨n, c0, c1, c2, f0, f1, f2⟩ := SX.later hBx
        show Gives _ _ _ (.agg #[.bool j1, .int .i64 j2, .int .i64 j3]) _
        refine Gives.val ?_
        go_simp
      rcases i with _ | i
      · obtain rfl := Option.some.inj ho
        have o3 : ρ (.tmp 3) = Value.int IntKind.i64 op := hout (.tmp 3) rfl
        have ocn : ∀ v, ρ (.const v) = v := fun v => hout (.const v) rfl
        have ofn : ∀ f, ρ (.func f) = .func (.func f) #[] #[] := fun f => hout (.func f) rfl
        clear hdep hout
        refine .inl ⟨?_, ?_⟩
        · rfl
        show Gives _ _ _ (Value.int IntKind.i64 op) _
        refine Gives.val ?_
        go_simp
      rcases i with _ | i
      · obtain rfl := Option.some.inj ho
        have o4 : ρ (.tmp 4) = Value.pointer (some { block := y1.heap.size, off := 0 }) := hout (.tmp 4) rfl
        have ocn : ∀ v, ρ (.const v) = v := fun v => hout (.const v) rfl
        have ofn : ∀ f, ρ (.func f) = .func (.func f) #[] #[] := fun f => hout (.func f) rfl
        clear hdep hout
        refine .inl ⟨?_, ?_⟩
        · rfl
        obtain ⟨n, c0, c1, c2, f0, f1, f2⟩ := SA.later hBx
        show Gives _ _ _ (.agg #[.bool a, .int .i64 al, .int .i64 ah]) _
        refine Gives.val ?_
        go_simp
      rcases i with _ | i
      · obtain rfl := Option.some.inj ho
        have o5 : ρ (.tmp 5) = Value.pointer (some { block := y1.heap.size + 1, off := 0 }) := hout (.tmp 5) rfl
        have ocn : ∀ v, ρ (.const v) = v := fun v => hout (.const v) rfl
        have ofn : ∀ f, ρ (.func f) = .func (.func f) #[] #[] := fun f => hout (.func f) rfl
        clear hdep hout
        refine .inl ⟨?_, ?_⟩
        · rfl
        obtain ⟨n, c0, c1, c2, f0, f1, f2⟩ := SB.later hBx
        show Gives _ _ _ (.agg #[.bool b, .int .i64 bl, .int .i64 bh]) _
        refine Gives.val ?_
        go_simp
      rcases i with _ | i
      · obtain rfl := Option.some.inj ho
        have e1 : ρ (.tmp 42) = Value.int IntKind.i64 op := (hdep ⟨1, .data⟩ (by simp) rfl).1 42 rfl
        have e2 : ρ (.tmp 43) = .agg #[.bool a, .int .i64 al, .int .i64 ah] := (hdep ⟨2, .data⟩ (by simp) rfl).1 43 rfl
        have e3 : ρ (.tmp 44) = .agg #[.bool b, .int .i64 bl, .int .i64 bh] := (hdep ⟨3, .data⟩ (by simp) rfl).1 44 rfl
        have ocn : ∀ v, ρ (.const v) = v := fun v => hout (.const v) rfl
        have ofn : ∀ f, ρ (.func f) = .func (.func f) #[] #[] := fun f => hout (.func f) rfl
        clear hdep hout
        refine .inl ⟨?_, ?_⟩
        · rfl
        show Gives _ _ _ (.agg #[.bool j1, .int .i64 j2, .int .i64 j3]) _
        refine Gives.call (Js.out x) ?_
        go_simp
      rcases i with _ | i
      · obtain rfl := Option.some.inj ho
        have e0 : ρ (.tmp 41) = .agg #[.bool j1, .int .i64 j2, .int .i64 j3] := (hdep ⟨0, .data⟩ (by simp) rfl).1 41 rfl
        have e4 : ρ (.tmp 45) = .agg #[.bool j1, .int .i64 j2, .int .i64 j3] := (hdep ⟨4, .data⟩ (by simp) rfl).1 45 rfl
        have ocn : ∀ v, ρ (.const v) = v := fun v => hout (.const v) rfl
        have ofn : ∀ f, ρ (.func f) = .func (.func f) #[] #[] := fun f => hout (.func f) rfl
        clear hdep hout
        refine .inl ⟨?_, ?_⟩
        · rfl
        show Gives _ _ _ (.bool true) _
        refine Gives.val ?_
        go_simp
      rcases i with _ | i
      · obtain rfl := Option.some.inj ho
        have e5 : ρ (.tmp 46) = .bool true := (hdep ⟨5, .data⟩ (by simp) rfl).1 46 rfl
        have ocn : ∀ v, ρ (.const v) = v := fun v => hout (.const v) rfl
        have ofn : ∀ f, ρ (.func f) = .func (.func f) #[] #[] := fun f => hout (.func f) rfl
        clear hdep hout
        refine .inl ⟨?_, ?_⟩
        · rfl
        show Gives _ _ _ (.bool true) _
        refine Gives.val ?_
        go_simp
      cases ho
    case fin =>
      intro x hBx
      go_wp2_with fail
      go_ret
      exact ⟨rfl, hB.trans (hBx.mono hB.size)⟩
  · obtain ⟨e0, e1⟩ := HG.out rfl
    subst e0 e1
    clear HG HE2
    rw [show (!true) = false from rfl]
    have na : y1.heap.size < wc.heap.size := SA.lt
    have nb : y1.heap.size + 1 < wc.heap.size := SB.lt
    have nx : y3.heap.size < wc.heap.size := SX.lt
    have hwt : w.heap.size ≤ wc.heap.size := hB.size
    go_wp2_with fail
    have hG : Below wc.heap.size wc (wc.alloc (.cells #[.bool false, .int .i64 0, .int .i64 0] 24)) := by go_grown
    replace SA := SA.later hG
    replace SB := SB.later hG
    replace SX := SX.later hG
    have SH : Sp3 (wc.alloc (.cells #[.bool false, .int .i64 0, .int .i64 0] 24)) (wc.heap.size) false 0 0 := ⟨by go_size, by simp [go_sem], by simp [go_sem], by simp [go_sem], by simp [go_sem], by simp [go_sem], by simp [go_sem]⟩
    replace hB := hB.trans (hG.mono hB.size)
    clear hG
    generalize hgen : (wc.alloc (.cells #[.bool false, .int .i64 0, .int .i64 0] 24)) = y5 at SA SB SX SH  hB ⊢
    generalize wc.heap.size = bt at na nb nx hwt SH ⊢
    have NE : Hid ((y1.heap.size) ≠ bt ∧ (y1.heap.size + 1) ≠ bt ∧ (y3.heap.size) ≠ bt ∧ w.heap.size ≤ bt) := ⟨by omega, by omega, by omega, hwt⟩
    clear na nb nx hwt
    go_loopw [8] (fun s8 x => ∃ (n : Int) (h : Bool) (hl hh : Int), -16 ≤ n ∧ n ≤ 16 ∧ s8 = .int .i64 n ∧ Hid (Hull (SeenD (fun p q => doOk op p q = true) (doF op) a al ah b bl bh n (-16)) (h, hl, hh)) ∧ Below w.heap.size w x ∧ Sp3 x (y1.heap.size) a al ah ∧ Sp3 x (y1.heap.size + 1) b bl bh ∧ Sp3 x (y3.heap.size) j1 j2 j3 ∧ Sp3 x bt h hl hh) (fun s8 _ => (16 - intOf s8).toNat)
    case atStart => exact ⟨-16, false, 0, 0, by omega, by omega, rfl, Hull.empty seenD_zero, hB, SA, SB, SX, SH⟩
    case round =>
      clear SA SB SX SH hB
      obtain ⟨n, h, hl, hh, n0, n1, rfl, HH, hB, SA, SB, SX, SH⟩ := hrel
      by_cases hlt : n ≤ 15
      · go_wp2_with fail
        go_loopw [9] (fun s9 x => ∃ (m : Int) (h : Bool) (hl hh : Int), -16 ≤ m ∧ m ≤ 16 ∧ s9 = .int .i64 m ∧ Hid (Hull (SeenD (fun p q => doOk op p q = true) (doF op) a al ah b bl bh n m) (h, hl, hh)) ∧ Below w.heap.size w x ∧ Sp3 x (y1.heap.size) a al ah ∧ Sp3 x (y1.heap.size + 1) b bl bh ∧ Sp3 x (y3.heap.size) j1 j2 j3 ∧ Sp3 x bt h hl hh) (fun s9 _ => (16 - intOf s9).toNat)
        case atStart => exact ⟨-16, h, hl, hh, by omega, by omega, rfl, HH.out, hB, SA, SB, SX, SH⟩
        case round =>
          clear SA SB SX SH hB HH h hl hh
          obtain ⟨m, h, hl, hh, m0, m1, rfl, HH, hB, SA, SB, SX, SH⟩ := hrel
          by_cases hmt : m ≤ 15
          · cases hh1 : hasF a al ah n
            · have K1 : Hid (hasF a al ah n = false) := hh1
              clear hh1
              obtain ⟨nA, c0A, c1A, c2A, f0A, f1A, f2A⟩ := id SA
              go_wp2_with fail
              clear nA c0A c1A c2A f0A f1A f2A
              refine (has_at K1.out _).mono ?_
              rintro e y6 ⟨rfl, hb⟩
              replace SA := SA.later hb
              replace SB := SB.later hb
              replace SX := SX.later hb
              replace SH := SH.later hb
              replace hB := hB.trans (hb.mono hB.size)
              clear hb
              have HN : Hid (Hull (SeenD (fun p q => doOk op p q = true) (doF op) a al ah b bl bh n (m + 1)) (h, hl, hh)) := HH.out.congr (seenD_no (by rw [K1.out]; simp))
              go_wp2_with fail
              go_roundw
              case rel => exact ⟨m + 1, h, hl, hh, by omega, by omega, by go_num, HN.out, hB, SA, SB, SX, SH⟩
              case measure => simp [intOf]; omega
            · have K1 : Hid (hasF a al ah n = true) := hh1
              clear hh1
              obtain ⟨nA, c0A, c1A, c2A, f0A, f1A, f2A⟩ := id SA
              go_wp2_with fail
              clear nA c0A c1A c2A f0A f1A f2A
              refine (has_at K1.out _).mono ?_
              rintro e y6 ⟨rfl, hb⟩
              replace SA := SA.later hb
              replace SB := SB.later hb
              replace SX := SX.later hb
              replace SH := SH.later hb
              replace hB := hB.trans (hb.mono hB.size)
              clear hb
              cases hh2 : hasF b bl bh m
              · have K2 : Hid (hasF b bl bh m = false) := hh2
                clear hh2
                obtain ⟨nB, c0B, c1B, c2B, f0B, f1B, f2B⟩ := id SB
                go_wp2_with fail
                clear nB c0B c1B c2B f0B f1B f2B
                refine (has_at K2.out _).mono ?_
                rintro e y7 ⟨rfl, hb⟩
                replace SA := SA.later hb
                replace SB := SB.later hb
                replace SX := SX.later hb
                replace SH := SH.later hb
                replace hB := hB.trans (hb.mono hB.size)
                clear hb
                have HN : Hid (Hull (SeenD (fun p q => doOk op p q = true) (doF op) a al ah b bl bh n (m + 1)) (h, hl, hh)) := HH.out.congr (seenD_no (by rw [K2.out]; simp))
                go_wp2_with fail
                go_roundw
                case rel => exact ⟨m + 1, h, hl, hh, by omega, by omega, by go_num, HN.out, hB, SA, SB, SX, SH⟩
                case measure => simp [intOf]; omega
              · have K2 : Hid (hasF b bl bh m = true) := hh2
                clear hh2
                obtain ⟨nB, c0B, c1B, c2B, f0B, f1B, f2B⟩ := id SB
                go_wp2_with fail
                clear nB c0B c1B c2B f0B f1B f2B
                refine (has_at K2.out _).mono ?_
                rintro e y7 ⟨rfl, hb⟩
                replace SA := SA.later hb
                replace SB := SB.later hb
                replace SX := SX.later hb
                replace SH := SH.later hb
                replace hB := hB.trans (hb.mono hB.size)
                clear hb
                obtain ⟨yv, hy⟩ : ∃ y, Hid (doF op n m = y) := ⟨_, rfl⟩
                have hyw : Hid (isW yv = true) := by have := do_word op n m; rw [hy.out] at this; exact this
                cases hh3 : doOk op n m
                · have K3 : Hid (doOk op n m = false) := hh3
                  clear hh3
                  go_wp2_with fail
                  refine (num_at hy.out K3.out _).mono ?_
                  rintro e y8 ⟨rfl, hb⟩
                  replace SA := SA.later hb
                  replace SB := SB.later hb
                  replace SX := SX.later hb
                  replace SH := SH.later hb
                  replace hB := hB.trans (hb.mono hB.size)
                  clear hb
                  have HN : Hid (Hull (SeenD (fun p q => doOk op p q = true) (doF op) a al ah b bl bh n (m + 1)) (h, hl, hh)) := HH.out.congr (seenD_no (by rw [K3.out]; simp))
                  go_wp2_with fail
                  go_roundw
                  case rel => exact ⟨m + 1, h, hl, hh, by omega, by omega, by go_num, HN.out, hB, SA, SB, SX, SH⟩
                  case measure => simp [intOf]; omega
                · have K3 : Hid (doOk op n m = true) := hh3
                  clear hh3
                  go_wp2_with fail
                  refine (num_at hy.out K3.out _).mono ?_
                  rintro e y8 ⟨rfl, hb⟩
                  replace SA := SA.later hb
                  replace SB := SB.later hb
                  replace SX := SX.later hb
                  replace SH := SH.later hb
                  replace hB := hB.trans (hb.mono hB.size)
                  clear hb
                  have K4 : Hid (hasF j1 j2 j3 yv = true) := by have := do_in HX.out K1.out K2.out K3.out; rw [hy.out] at this; exact this
                  obtain ⟨nX, c0X, c1X, c2X, f0X, f1X, f2X⟩ := id SX
                  go_wp2_with fail
                  clear nX c0X c1X c2X f0X f1X f2X
                  refine (has_at K4.out _).mono ?_
                  rintro e y9 ⟨rfl, hb⟩
                  replace SA := SA.later hb
                  replace SB := SB.later hb
                  replace SX := SX.later hb
                  replace SH := SH.later hb
                  replace hB := hB.trans (hb.mono hB.size)
                  clear hb
                  obtain ⟨g, gl, gh, hJ⟩ : ∃ g gl gh, Hid (joinF h hl hh true yv yv = (g, gl, gh)) := ⟨_, _, _, rfl⟩
                  have HN : Hid (Hull (SeenD (fun p q => doOk op p q = true) (doF op) a al ah b bl bh n (m + 1)) (g, gl, gh)) := by
                    have k := join_add (hull_okF HH.out (by rintro r ⟨p, q, _, _, _, _, rfl⟩; exact isW_iff.1 (do_word op p q))) hyw.out
                    have k2 : Hull (SeenD (fun p q => doOk op p q = true) (doF op) a al ah b bl bh n (m + 1)) (addS (h, hl, hh) yv) := (HH.out.add yv).congr (fun r => by rw [← hy.out]; exact seenD_yes K1.out K2.out K3.out r)
                    rw [← k, hJ.out] at k2; exact k2
                  go_wp2_with fail
                  have hBo := hB
                  refine wp_region_inv (by kernel_rfl) (by kernel_rfl) (UI (fun s0 s1 s2 s3 => ⟨#[Value.slice a0 len0 cap0, undef, u2, Value.int IntKind.i64 op, Value.pointer (some { block := y1.heap.size, off := 0 }), Value.pointer (some { block := y1.heap.size + 1, off := 0 }), Value.pointer (some { block := y3.heap.size, off := 0 }), Value.pointer (some { block := bt, off := 0 }), Value.int IntKind.i64 n, Value.int IntKind.i64 m, Value.int IntKind.i64 yv, Value.bool true, u12, u13, u14, u15, u16, u17, u18, u19, u20, u21, u22, u23, u24, u25, u26, u27, u28, u29, u30, u31, u32, u33, u34, u35, u36, u37, u38, u39, Value.bool false, u41, u42, u43, u44, u45, u46, Value.agg #[Value.bool false, Value.int IntKind.i64 0, Value.int IntKind.i64 0], Value.int IntKind.i64 n, Value.bool true, u50, u51, Value.int IntKind.i64 m, Value.bool true, u54, u55, Value.agg #[Value.bool a, Value.int IntKind.i64 al, Value.int IntKind.i64 ah], Value.int IntKind.i64 n, Value.bool true, Value.bool true, Value.agg #[Value.bool b, Value.int IntKind.i64 bl, Value.int IntKind.i64 bh], Value.int IntKind.i64 m, Value.bool true, Value.bool true, Value.tuple #[Value.int IntKind.i64 yv, Value.bool true], Value.int IntKind.i64 op, Value.int IntKind.i64 n, Value.int IntKind.i64 m, Value.tuple #[Value.int IntKind.i64 yv, Value.bool true], Value.int IntKind.i64 yv, Value.bool true, Value.bool true, Value.bool true, Value.agg #[Value.bool j1, Value.int IntKind.i64 j2, Value.int IntKind.i64 j3], Value.int IntKind.i64 yv, Value.bool true, Value.bool false, Value.bool false, Value.bool true, s0, s1, s2, s3, u83, u84, u85, u86, u87, u88, u89, u90], []⟩) y9 (.agg #[.bool h, .int .i64 hl, .int .i64 hh]) (.int .i64 yv) (.agg #[.bool true, .int .i64 yv, .int .i64 yv]) (.agg #[.bool g, .int .i64 gl, .int .i64 gh]) (SetSp y9 (bt) g gl gh)) ?start ?step ?fin
                  case start => exact ⟨false, false, false, false, false, _, _, _, _, rfl, rfl, fun _ => Below.drew (Below.refl _ _), (fun h => by cases h), (fun h => by cases h), Sl.no, Sl.no, Sl.no, Sl.no⟩
                  case step =>
                    intro listed a x hI i o ho hun hpre
                    obtain ⟨b0, b1, b2, b3, b4, s0, s1, s2, s3, rfl, rfl, hB0, hD, h4, h0, h1, h2, h3⟩ := hI
                    rcases i with _ | i
                    · obtain rfl := Option.some.inj ho
                      have e : b0 = false := hun
                      subst e
                      obtain rfl : b4 = false := by
                        cases b4
                        · rfl
                        · have := h4 rfl; simp at this
                      have hBx := hB0 rfl
                      clear hB0 hD h4 hun
                      refine wpOp_of ho rfl fun K hK => ?_
                      clear ho hpre
                      obtain ⟨n, c0, c1, c2, f0, f1, f2⟩ := SH.later hBx
                      go_simp
                      exact hK _ _ ⟨true, b1, b2, b3, false, _, s1, s2, s3, rfl, rfl, fun _ => hBx, (fun h => by cases h), (fun h => by cases h), Sl.mk rfl, h1, h2, h3⟩
                    rcases i with _ | i
                    · obtain rfl := Option.some.inj ho
                      have e : b1 = false := hun
                      subst e
                      obtain rfl : b4 = false := by
                        cases b4
                        · rfl
                        · have := h4 rfl; simp at this
                      have hBx := hB0 rfl
                      clear hB0 hD h4 hun
                      refine wpOp_of ho rfl fun K hK => ?_
                      clear ho hpre
                      go_simp
                      exact hK _ _ ⟨b0, true, b2, b3, false, s0, _, s2, s3, rfl, rfl, fun _ => hBx, (fun h => by cases h), (fun h => by cases h), h0, Sl.mk rfl, h2, h3⟩
                    rcases i with _ | i
                    · obtain rfl := Option.some.inj ho
                      have e : b2 = false := hun
                      subst e
                      obtain rfl : b4 = false := by
                        cases b4
                        · rfl
                        · have := h4 rfl; simp at this
                      have hBx := hB0 rfl
                      clear hB0 hD h4 hun
                      have q1 : b1 = true := hpre ⟨1, .data⟩ (by simp) rfl
                      have e1 : s1 = .int .i64 yv := h1.at_ q1
                      subst e1
                      refine wpOp_of ho rfl fun K hK => ?_
                      clear ho hpre
                      go_simp
                      refine (ofw_at hyw.out _).mono ?_
                      rintro e w' ⟨rfl, hbx⟩
                      exact hK _ _ ⟨b0, b1, true, b3, false, s0, _, _, s3, rfl, rfl, fun _ => hBx.trans (hbx.mono hBx.size), (fun h => by cases h), (fun h => by cases h), h0, h1, Sl.mk rfl, h3⟩
                    rcases i with _ | i
                    · obtain rfl := Option.some.inj ho
                      have e : b3 = false := hun
                      subst e
                      obtain rfl : b4 = false := by
                        cases b4
                        · rfl
                        · have := h4 rfl; simp at this
                      have hBx := hB0 rfl
                      clear hB0 hD h4 hun
                      have q0 : b0 = true := hpre ⟨0, .data⟩ (by simp) rfl
                      have e0 : s0 = .agg #[.bool h, .int .i64 hl, .int .i64 hh] := h0.at_ q0
                      subst e0
                      have q2 : b2 = true := hpre ⟨2, .data⟩ (by simp) rfl
                      have e2 : s2 = .agg #[.bool true, .int .i64 yv, .int .i64 yv] := h2.at_ q2
                      subst e2
                      refine wpOp_of ho rfl fun K hK => ?_
                      clear ho hpre
                      go_simp
                      refine (join_at hJ.out _).mono ?_
                      rintro e w' ⟨rfl, hbx⟩
                      exact hK _ _ ⟨b0, b1, b2, true, false, _, s1, _, _, rfl, rfl, fun _ => hBx.trans (hbx.mono hBx.size), (fun h => by cases h), (fun h => by cases h), h0, h1, h2, Sl.mk rfl⟩
                    rcases i with _ | i
                    · obtain rfl := Option.some.inj ho
                      have e : b4 = false := hun
                      subst e
                      have hBx := hB0 rfl
                      clear hB0 hD h4 hun
                      have q0 : b0 = true := hpre ⟨0, .phase⟩ (by simp) rfl
                      have q1 : b1 = true := hpre ⟨1, .phase⟩ (by simp) rfl
                      have q2 : b2 = true := hpre ⟨2, .phase⟩ (by simp) rfl
                      have q3 : b3 = true := hpre ⟨3, .data⟩ (by simp) rfl
                      have e3 : s3 = .agg #[.bool g, .int .i64 gl, .int .i64 gh] := h3.at_ q3
                      subst e3
                      refine wpOp_of ho rfl fun K hK => ?_
                      clear ho hpre
                      obtain ⟨n, c0, c1, c2, f0, f1, f2⟩ := SH.later hBx
                      go_simp
                      exact hK _ _ ⟨b0, b1, b2, b3, true, s0, s1, s2, _, rfl, rfl, (fun h => by cases h), fun _ => ⟨_, hBx, rfl⟩, fun _ => ⟨q0, q1, q2, q3⟩, h0, h1, h2, Sl.mk rfl⟩
                    cases ho
                  case fin =>
                    intro listed a x hI hall
                    obtain ⟨b0, b1, b2, b3, b4, s0, s1, s2, s3, rfl, rfl, _, hD, _, _, _, _, _⟩ := hI
                    have hSet := hD (hall 4 (by simp))
                    clear hD hall
                    have SA := hSet.off SA NE.out.1
                    have SB := hSet.off SB NE.out.2.1
                    have SX := hSet.off SX NE.out.2.2.1
                    have SH := hSet.at_ SH
                    have hB := hSet.below hBo NE.out.2.2.2
                    clear hSet
                    go_wp2_with fail
                    go_roundw
                    case rel => exact ⟨m + 1, g, gl, gh, by omega, by omega, by go_num, HN.out, hB, SA, SB, SX, SH⟩
                    case measure => simp [intOf]; omega
          · have HN : Hid (Hull (SeenD (fun p q => doOk op p q = true) (doF op) a al ah b bl bh (n + 1) (-16)) (h, hl, hh)) := HH.out.congr (seenD_row (by omega))
            go_wp2_with fail
            go_roundw
            case rel => exact ⟨n + 1, h, hl, hh, by omega, by omega, by go_num, HN.out, hB, SA, SB, SX, SH⟩
            case measure => simp [intOf]; omega
      · obtain rfl : n = 16 := by omega
        clear n0 n1 hlt
        rcases do_end HX.out Hoa.out Hob.out HH.out with he | he
        · simp only [Prod.mk.injEq] at he
          obtain ⟨rfl, rfl, rfl⟩ := he
          obtain ⟨nX, c0X, c1X, c2X, f0X, f1X, f2X⟩ := id SX
          obtain ⟨nH, c0H, c1H, c2H, f0H, f1H, f2H⟩ := id SH
          go_wp2_with fail
          go_ret
          exact ⟨rfl, by assumption⟩
        · simp only [Prod.mk.injEq] at he
          obtain ⟨rfl, rfl, rfl⟩ := he
          clear Js Ji HX HH
          cases h
          · obtain ⟨nX, c0X, c1X, c2X, f0X, f1X, f2X⟩ := id SX
            obtain ⟨nH, c0H, c1H, c2H, f0H, f1H, f2H⟩ := id SH
            go_wp2_with fail
            go_ret
            exact ⟨rfl, by assumption⟩
          · by_cases e2 : hl = -16
            · subst e2
              by_cases e3 : hh = 15
              · subst e3
                obtain ⟨nX, c0X, c1X, c2X, f0X, f1X, f2X⟩ := id SX
                obtain ⟨nH, c0H, c1H, c2H, f0H, f1H, f2H⟩ := id SH
                go_wp2_with fail
                go_ret
                exact ⟨rfl, by assumption⟩
              · have e3' : ((15 : Int) == hh) = false := by simp; omega
                have e3'' : ¬ (15 : Int) = hh := by omega
                obtain ⟨nX, c0X, c1X, c2X, f0X, f1X, f2X⟩ := id SX
                obtain ⟨nH, c0H, c1H, c2H, f0H, f1H, f2H⟩ := id SH
                go_wp2_with fail
                go_ret
                exact ⟨rfl, by assumption⟩
            · have e2' : ((-16 : Int) == hl) = false := by simp; omega
              have e2'' : ¬ (-16 : Int) = hl := by omega
              obtain ⟨nX, c0X, c1X, c2X, f0X, f1X, f2X⟩ := id SX
              obtain ⟨nH, c0H, c1H, c2H, f0H, f1H, f2H⟩ := id SH
              go_wp2_with fail
              go_ret
              exact ⟨rfl, by assumption⟩

end Go.Proofs.Ytlnfjjciilieeaa
