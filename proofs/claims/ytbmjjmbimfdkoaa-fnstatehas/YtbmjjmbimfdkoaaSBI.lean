/-
  The program's join of two states span by span, where one is none or not ok.
-/
import Derived.Test.YtbmjjmbimfdkoaaSJm
import Derived.Test.YtbmjjmbimfdkoaaSIn
namespace Go.Proofs.Ytbmjjmbimfdkoaa
open Go.RowKit
set_option linter.unusedVariables false
set_option linter.unusedSimpArgs false

set_option maxHeartbeats 4000000 in
theorem sbs_early_false (x : World) (z z' : Bool) (B E C D : Nat) (a : Bool) (v : Value) (L : List Sp) (c : Bool) (l u : Int) (b : Bool) (v' : Value) (M : List Sp) (d : Bool) (l' u' : Int) (hh : (stOk a L (c, l, u) && stOk b M (d, l', u') && a && b) = false) (h : SpsAt z x B E v L) (h' : SpsAt z' x C D v' M) :
    Calls Try.prog 63 #[.agg #[.bool a, v, .bool c, .int .i64 l, .int .i64 u], .agg #[.bool b, v', .bool d, .int .i64 l', .int .i64 u'], .func (.func 64) #[] #[]] x fun e y => StAt (stBoth false a L (c, l, u) b M (d, l', u')) x e y := by
  obtain ⟨p, cap, hv⟩ := h.shape
  obtain ⟨p', cap', hv'⟩ := h'.shape
  generalize hn : L.length = n at hv
  generalize hm : M.length = m at hv'
  subst hv hv'
  have HN : Hid (L.length = n) := hn
  have HM : Hid (M.length = m) := hm
  clear hn hm
  have hba : Below x.heap.size x ((((x.alloc (.cells #[.bool a, .slice p n cap, .bool c, .int .i64 l, .int .i64 u] 32)).alloc (.cells #[.bool b, .slice p' m cap', .bool d, .int .i64 l', .int .i64 u'] 32)).alloc (.cells #[.func (.func 64) #[] #[]] 72)).alloc (.cells #[.bool false, .slice none 0 0, .bool false, .int .i64 0, .int .i64 0] 32)) := by go_grown
  have ka := (((Bx5.new x (.bool a) (.slice p n cap) (.bool c) (.int .i64 l) (.int .i64 u) 32).alloc (.cells #[.bool b, .slice p' m cap', .bool d, .int .i64 l', .int .i64 u'] 32)).alloc (.cells #[.func (.func 64) #[] #[]] 72)).alloc (.cells #[.bool false, .slice none 0 0, .bool false, .int .i64 0, .int .i64 0] 32)
  have kb := ((Bx5.new (x.alloc (.cells #[.bool a, .slice p n cap, .bool c, .int .i64 l, .int .i64 u] 32)) (.bool b) (.slice p' m cap') (.bool d) (.int .i64 l') (.int .i64 u') 32).alloc (.cells #[.func (.func 64) #[] #[]] 72)).alloc (.cells #[.bool false, .slice none 0 0, .bool false, .int .i64 0, .int .i64 0] 32)
  have kf := (Boxed.new ((x.alloc (.cells #[.bool a, .slice p n cap, .bool c, .int .i64 l, .int .i64 u] 32)).alloc (.cells #[.bool b, .slice p' m cap', .bool d, .int .i64 l', .int .i64 u'] 32)) 72 (.func (.func 64) #[] #[])).alloc (.cells #[.bool false, .slice none 0 0, .bool false, .int .i64 0, .int .i64 0] 32)
  have kr := Bx5.new (((x.alloc (.cells #[.bool a, .slice p n cap, .bool c, .int .i64 l, .int .i64 u] 32)).alloc (.cells #[.bool b, .slice p' m cap', .bool d, .int .i64 l', .int .i64 u'] 32)).alloc (.cells #[.func (.func 64) #[] #[]] 72)) (.bool false) (.slice none 0 0) (.bool false) (.int .i64 0) (.int .i64 0) 32
  simp only [World.size_alloc] at kb kf kr
  have h3 := h.later hba
  have h3' := h'.later hba
  cases hoa : stOk a L (c, l, u)
  · go_enter Try.func63, Try.ntmps63
    go_wp2_with fail
    refine (stOk_impl _ z B E _ _ L _ _ _ h3).mono ?_
    rintro e w1 ⟨rfl, hb⟩
    rw [hoa]
    replace hba := hba.trans (hb.mono hba.size)
    replace ka := ka.later hb
    replace kb := kb.later hb
    replace kr := kr.later hb
    replace h3 := h3.later hb
    replace h3' := h3'.later hb
    replace kf := boxed_later kf hb
    clear hb
    obtain ⟨_, a0, a1, a2, a3, a4, af⟩ := id ka
    obtain ⟨_, b0, b1, b2, b3, b4, bf⟩ := id kb
    obtain ⟨_, r0, r1, r2, r3, r4, rf⟩ := id kr
    have f0 := kf.cell
    have ff := kf.frozen
    go_wp2_with fail
    refine bodyPost_ret (v := .agg #[.bool false, .slice none 0 0, .bool false, .int .i64 0, .int .i64 0]) (by simp [results, Try.results63, go_sem, kr.lt, r0, r1, r2, r3, r4, rf]) rfl ?_
    rw [stB_no (by rw [hoa]; rfl)]
    refine ⟨_, rfl, SpsAt.nil, ?_⟩
    repeat (refine Below.setCell ?_ (by simp <;> omega) _)
    exact hba
  cases hob : stOk b M (d, l', u')
  · go_enter Try.func63, Try.ntmps63
    go_wp2_with fail
    refine (stOk_impl _ z B E _ _ L _ _ _ h3).mono ?_
    rintro e w1 ⟨rfl, hb⟩
    rw [hoa]
    replace hba := hba.trans (hb.mono hba.size)
    replace ka := ka.later hb
    replace kb := kb.later hb
    replace kr := kr.later hb
    replace h3 := h3.later hb
    replace h3' := h3'.later hb
    replace kf := boxed_later kf hb
    clear hb
    obtain ⟨_, a0, a1, a2, a3, a4, af⟩ := id ka
    obtain ⟨_, b0, b1, b2, b3, b4, bf⟩ := id kb
    obtain ⟨_, r0, r1, r2, r3, r4, rf⟩ := id kr
    have f0 := kf.cell
    have ff := kf.frozen
    go_wp2_with fail
    clear a0 a1 a2 a3 a4 af b0 b1 b2 b3 b4 bf r0 r1 r2 r3 r4 rf f0 ff
    refine (stOk_impl _ z' C D _ _ M _ _ _ h3').mono ?_
    rintro e w2 ⟨rfl, hb⟩
    rw [hob]
    replace hba := hba.trans (hb.mono hba.size)
    replace ka := ka.later hb
    replace kb := kb.later hb
    replace kr := kr.later hb
    replace h3 := h3.later hb
    replace h3' := h3'.later hb
    replace kf := boxed_later kf hb
    clear hb
    obtain ⟨_, a0, a1, a2, a3, a4, af⟩ := id ka
    obtain ⟨_, b0, b1, b2, b3, b4, bf⟩ := id kb
    obtain ⟨_, r0, r1, r2, r3, r4, rf⟩ := id kr
    have f0 := kf.cell
    have ff := kf.frozen
    go_wp2_with fail
    refine bodyPost_ret (v := .agg #[.bool false, .slice none 0 0, .bool false, .int .i64 0, .int .i64 0]) (by simp [results, Try.results63, go_sem, kr.lt, r0, r1, r2, r3, r4, rf]) rfl ?_
    rw [stB_no (by rw [hoa, hob]; rfl)]
    refine ⟨_, rfl, SpsAt.nil, ?_⟩
    repeat (refine Below.setCell ?_ (by simp <;> omega) _)
    exact hba
  cases a
  · go_enter Try.func63, Try.ntmps63
    go_wp2_with fail
    refine (stOk_impl _ z B E _ _ L _ _ _ h3).mono ?_
    rintro e w1 ⟨rfl, hb⟩
    rw [hoa]
    replace hba := hba.trans (hb.mono hba.size)
    replace ka := ka.later hb
    replace kb := kb.later hb
    replace kr := kr.later hb
    replace h3 := h3.later hb
    replace h3' := h3'.later hb
    replace kf := boxed_later kf hb
    clear hb
    obtain ⟨_, a0, a1, a2, a3, a4, af⟩ := id ka
    obtain ⟨_, b0, b1, b2, b3, b4, bf⟩ := id kb
    obtain ⟨_, r0, r1, r2, r3, r4, rf⟩ := id kr
    have f0 := kf.cell
    have ff := kf.frozen
    go_wp2_with fail
    clear a0 a1 a2 a3 a4 af b0 b1 b2 b3 b4 bf r0 r1 r2 r3 r4 rf f0 ff
    refine (stOk_impl _ z' C D _ _ M _ _ _ h3').mono ?_
    rintro e w2 ⟨rfl, hb⟩
    rw [hob]
    replace hba := hba.trans (hb.mono hba.size)
    replace ka := ka.later hb
    replace kb := kb.later hb
    replace kr := kr.later hb
    replace h3 := h3.later hb
    replace h3' := h3'.later hb
    replace kf := boxed_later kf hb
    clear hb
    obtain ⟨_, a0, a1, a2, a3, a4, af⟩ := id ka
    obtain ⟨_, b0, b1, b2, b3, b4, bf⟩ := id kb
    obtain ⟨_, r0, r1, r2, r3, r4, rf⟩ := id kr
    have f0 := kf.cell
    have ff := kf.frozen
    go_wp2_with fail
    clear a0 a1 a2 a3 a4 af b0 b1 b2 b3 b4 bf r0 r1 r2 r3 r4 rf f0 ff
    refine (copyState_any _ z' C D _ _ M _ _ _ h3' (stOk_len0 hob)).mono ?_
    rintro e w5 ⟨v5, rfl, hS5, hb⟩
    obtain ⟨p5, cap5, hv5⟩ := hS5.shape
    subst hv5
    have hz5 := hba.size
    replace hba := hba.trans (hb.mono hba.size)
    replace kr := kr.later hb
    clear hb
    obtain ⟨hlt, r0, r1, r2, r3, r4, rf⟩ := id kr
    generalize hq : M.length = q at hS5 ⊢
    have HS5 : Hid (SpsAt true w5 w2.heap.size w5.heap.size (.slice p5 q cap5) M) := hS5
    clear hS5 hq
    go_wp2_with fail
    refine bodyPost_ret (v := .agg #[.bool b, .slice p5 q cap5, .bool d, .int .i64 l', .int .i64 u']) (by simp [results, Try.results63, go_sem, hlt, r0, r1, r2, r3, r4, rf]) rfl ?_
    rw [stB_snd hoa hob]
    refine ⟨_, rfl, ?_, ?_⟩
    · refine SpsAt.wide (B := w2.heap.size) (E := w5.heap.size) ?_ (by omega) (by simp) (by simp)
      repeat (refine SpsAt.off ?_ (by omega))
      exact HS5.out
    · repeat (refine Below.setCell ?_ (by simp <;> omega) _)
      exact hba
  cases b
  · go_enter Try.func63, Try.ntmps63
    go_wp2_with fail
    refine (stOk_impl _ z B E _ _ L _ _ _ h3).mono ?_
    rintro e w1 ⟨rfl, hb⟩
    rw [hoa]
    replace hba := hba.trans (hb.mono hba.size)
    replace ka := ka.later hb
    replace kb := kb.later hb
    replace kr := kr.later hb
    replace h3 := h3.later hb
    replace h3' := h3'.later hb
    replace kf := boxed_later kf hb
    clear hb
    obtain ⟨_, a0, a1, a2, a3, a4, af⟩ := id ka
    obtain ⟨_, b0, b1, b2, b3, b4, bf⟩ := id kb
    obtain ⟨_, r0, r1, r2, r3, r4, rf⟩ := id kr
    have f0 := kf.cell
    have ff := kf.frozen
    go_wp2_with fail
    clear a0 a1 a2 a3 a4 af b0 b1 b2 b3 b4 bf r0 r1 r2 r3 r4 rf f0 ff
    refine (stOk_impl _ z' C D _ _ M _ _ _ h3').mono ?_
    rintro e w2 ⟨rfl, hb⟩
    rw [hob]
    replace hba := hba.trans (hb.mono hba.size)
    replace ka := ka.later hb
    replace kb := kb.later hb
    replace kr := kr.later hb
    replace h3 := h3.later hb
    replace h3' := h3'.later hb
    replace kf := boxed_later kf hb
    clear hb
    obtain ⟨_, a0, a1, a2, a3, a4, af⟩ := id ka
    obtain ⟨_, b0, b1, b2, b3, b4, bf⟩ := id kb
    obtain ⟨_, r0, r1, r2, r3, r4, rf⟩ := id kr
    have f0 := kf.cell
    have ff := kf.frozen
    go_wp2_with fail
    clear a0 a1 a2 a3 a4 af b0 b1 b2 b3 b4 bf r0 r1 r2 r3 r4 rf f0 ff
    refine (copyState_any _ z B E _ _ L _ _ _ h3 (stOk_len0 hoa)).mono ?_
    rintro e w5 ⟨v5, rfl, hS5, hb⟩
    obtain ⟨p5, cap5, hv5⟩ := hS5.shape
    subst hv5
    have hz5 := hba.size
    replace hba := hba.trans (hb.mono hba.size)
    replace kr := kr.later hb
    clear hb
    obtain ⟨hlt, r0, r1, r2, r3, r4, rf⟩ := id kr
    generalize hq : L.length = q at hS5 ⊢
    have HS5 : Hid (SpsAt true w5 w2.heap.size w5.heap.size (.slice p5 q cap5) L) := hS5
    clear hS5 hq
    go_wp2_with fail
    refine bodyPost_ret (v := .agg #[.bool true, .slice p5 q cap5, .bool c, .int .i64 l, .int .i64 u]) (by simp [results, Try.results63, go_sem, hlt, r0, r1, r2, r3, r4, rf]) rfl ?_
    rw [stB_fst hoa hob rfl]
    refine ⟨_, rfl, ?_, ?_⟩
    · refine SpsAt.wide (B := w2.heap.size) (E := w5.heap.size) ?_ (by omega) (by simp) (by simp)
      repeat (refine SpsAt.off ?_ (by omega))
      exact HS5.out
    · repeat (refine Below.setCell ?_ (by simp <;> omega) _)
      exact hba
  rw [hoa, hob] at hh
  cases hh

set_option maxHeartbeats 4000000 in
theorem sbs_early_true (x : World) (z z' : Bool) (B E C D : Nat) (a : Bool) (v : Value) (L : List Sp) (c : Bool) (l u : Int) (b : Bool) (v' : Value) (M : List Sp) (d : Bool) (l' u' : Int) (hh : (stOk a L (c, l, u) && stOk b M (d, l', u') && a && b) = false) (h : SpsAt z x B E v L) (h' : SpsAt z' x C D v' M) :
    Calls Try.prog 63 #[.agg #[.bool a, v, .bool c, .int .i64 l, .int .i64 u], .agg #[.bool b, v', .bool d, .int .i64 l', .int .i64 u'], .func (.func 65) #[] #[]] x fun e y => StAt (stBoth true a L (c, l, u) b M (d, l', u')) x e y := by
  obtain ⟨p, cap, hv⟩ := h.shape
  obtain ⟨p', cap', hv'⟩ := h'.shape
  generalize hn : L.length = n at hv
  generalize hm : M.length = m at hv'
  subst hv hv'
  have HN : Hid (L.length = n) := hn
  have HM : Hid (M.length = m) := hm
  clear hn hm
  have hba : Below x.heap.size x ((((x.alloc (.cells #[.bool a, .slice p n cap, .bool c, .int .i64 l, .int .i64 u] 32)).alloc (.cells #[.bool b, .slice p' m cap', .bool d, .int .i64 l', .int .i64 u'] 32)).alloc (.cells #[.func (.func 65) #[] #[]] 72)).alloc (.cells #[.bool false, .slice none 0 0, .bool false, .int .i64 0, .int .i64 0] 32)) := by go_grown
  have ka := (((Bx5.new x (.bool a) (.slice p n cap) (.bool c) (.int .i64 l) (.int .i64 u) 32).alloc (.cells #[.bool b, .slice p' m cap', .bool d, .int .i64 l', .int .i64 u'] 32)).alloc (.cells #[.func (.func 65) #[] #[]] 72)).alloc (.cells #[.bool false, .slice none 0 0, .bool false, .int .i64 0, .int .i64 0] 32)
  have kb := ((Bx5.new (x.alloc (.cells #[.bool a, .slice p n cap, .bool c, .int .i64 l, .int .i64 u] 32)) (.bool b) (.slice p' m cap') (.bool d) (.int .i64 l') (.int .i64 u') 32).alloc (.cells #[.func (.func 65) #[] #[]] 72)).alloc (.cells #[.bool false, .slice none 0 0, .bool false, .int .i64 0, .int .i64 0] 32)
  have kf := (Boxed.new ((x.alloc (.cells #[.bool a, .slice p n cap, .bool c, .int .i64 l, .int .i64 u] 32)).alloc (.cells #[.bool b, .slice p' m cap', .bool d, .int .i64 l', .int .i64 u'] 32)) 72 (.func (.func 65) #[] #[])).alloc (.cells #[.bool false, .slice none 0 0, .bool false, .int .i64 0, .int .i64 0] 32)
  have kr := Bx5.new (((x.alloc (.cells #[.bool a, .slice p n cap, .bool c, .int .i64 l, .int .i64 u] 32)).alloc (.cells #[.bool b, .slice p' m cap', .bool d, .int .i64 l', .int .i64 u'] 32)).alloc (.cells #[.func (.func 65) #[] #[]] 72)) (.bool false) (.slice none 0 0) (.bool false) (.int .i64 0) (.int .i64 0) 32
  simp only [World.size_alloc] at kb kf kr
  have h3 := h.later hba
  have h3' := h'.later hba
  cases hoa : stOk a L (c, l, u)
  · go_enter Try.func63, Try.ntmps63
    go_wp2_with fail
    refine (stOk_impl _ z B E _ _ L _ _ _ h3).mono ?_
    rintro e w1 ⟨rfl, hb⟩
    rw [hoa]
    replace hba := hba.trans (hb.mono hba.size)
    replace ka := ka.later hb
    replace kb := kb.later hb
    replace kr := kr.later hb
    replace h3 := h3.later hb
    replace h3' := h3'.later hb
    replace kf := boxed_later kf hb
    clear hb
    obtain ⟨_, a0, a1, a2, a3, a4, af⟩ := id ka
    obtain ⟨_, b0, b1, b2, b3, b4, bf⟩ := id kb
    obtain ⟨_, r0, r1, r2, r3, r4, rf⟩ := id kr
    have f0 := kf.cell
    have ff := kf.frozen
    go_wp2_with fail
    refine bodyPost_ret (v := .agg #[.bool false, .slice none 0 0, .bool false, .int .i64 0, .int .i64 0]) (by simp [results, Try.results63, go_sem, kr.lt, r0, r1, r2, r3, r4, rf]) rfl ?_
    rw [stB_no (by rw [hoa]; rfl)]
    refine ⟨_, rfl, SpsAt.nil, ?_⟩
    repeat (refine Below.setCell ?_ (by simp <;> omega) _)
    exact hba
  cases hob : stOk b M (d, l', u')
  · go_enter Try.func63, Try.ntmps63
    go_wp2_with fail
    refine (stOk_impl _ z B E _ _ L _ _ _ h3).mono ?_
    rintro e w1 ⟨rfl, hb⟩
    rw [hoa]
    replace hba := hba.trans (hb.mono hba.size)
    replace ka := ka.later hb
    replace kb := kb.later hb
    replace kr := kr.later hb
    replace h3 := h3.later hb
    replace h3' := h3'.later hb
    replace kf := boxed_later kf hb
    clear hb
    obtain ⟨_, a0, a1, a2, a3, a4, af⟩ := id ka
    obtain ⟨_, b0, b1, b2, b3, b4, bf⟩ := id kb
    obtain ⟨_, r0, r1, r2, r3, r4, rf⟩ := id kr
    have f0 := kf.cell
    have ff := kf.frozen
    go_wp2_with fail
    clear a0 a1 a2 a3 a4 af b0 b1 b2 b3 b4 bf r0 r1 r2 r3 r4 rf f0 ff
    refine (stOk_impl _ z' C D _ _ M _ _ _ h3').mono ?_
    rintro e w2 ⟨rfl, hb⟩
    rw [hob]
    replace hba := hba.trans (hb.mono hba.size)
    replace ka := ka.later hb
    replace kb := kb.later hb
    replace kr := kr.later hb
    replace h3 := h3.later hb
    replace h3' := h3'.later hb
    replace kf := boxed_later kf hb
    clear hb
    obtain ⟨_, a0, a1, a2, a3, a4, af⟩ := id ka
    obtain ⟨_, b0, b1, b2, b3, b4, bf⟩ := id kb
    obtain ⟨_, r0, r1, r2, r3, r4, rf⟩ := id kr
    have f0 := kf.cell
    have ff := kf.frozen
    go_wp2_with fail
    refine bodyPost_ret (v := .agg #[.bool false, .slice none 0 0, .bool false, .int .i64 0, .int .i64 0]) (by simp [results, Try.results63, go_sem, kr.lt, r0, r1, r2, r3, r4, rf]) rfl ?_
    rw [stB_no (by rw [hoa, hob]; rfl)]
    refine ⟨_, rfl, SpsAt.nil, ?_⟩
    repeat (refine Below.setCell ?_ (by simp <;> omega) _)
    exact hba
  cases a
  · go_enter Try.func63, Try.ntmps63
    go_wp2_with fail
    refine (stOk_impl _ z B E _ _ L _ _ _ h3).mono ?_
    rintro e w1 ⟨rfl, hb⟩
    rw [hoa]
    replace hba := hba.trans (hb.mono hba.size)
    replace ka := ka.later hb
    replace kb := kb.later hb
    replace kr := kr.later hb
    replace h3 := h3.later hb
    replace h3' := h3'.later hb
    replace kf := boxed_later kf hb
    clear hb
    obtain ⟨_, a0, a1, a2, a3, a4, af⟩ := id ka
    obtain ⟨_, b0, b1, b2, b3, b4, bf⟩ := id kb
    obtain ⟨_, r0, r1, r2, r3, r4, rf⟩ := id kr
    have f0 := kf.cell
    have ff := kf.frozen
    go_wp2_with fail
    clear a0 a1 a2 a3 a4 af b0 b1 b2 b3 b4 bf r0 r1 r2 r3 r4 rf f0 ff
    refine (stOk_impl _ z' C D _ _ M _ _ _ h3').mono ?_
    rintro e w2 ⟨rfl, hb⟩
    rw [hob]
    replace hba := hba.trans (hb.mono hba.size)
    replace ka := ka.later hb
    replace kb := kb.later hb
    replace kr := kr.later hb
    replace h3 := h3.later hb
    replace h3' := h3'.later hb
    replace kf := boxed_later kf hb
    clear hb
    obtain ⟨_, a0, a1, a2, a3, a4, af⟩ := id ka
    obtain ⟨_, b0, b1, b2, b3, b4, bf⟩ := id kb
    obtain ⟨_, r0, r1, r2, r3, r4, rf⟩ := id kr
    have f0 := kf.cell
    have ff := kf.frozen
    go_wp2_with fail
    clear a0 a1 a2 a3 a4 af b0 b1 b2 b3 b4 bf r0 r1 r2 r3 r4 rf f0 ff
    refine (copyState_any _ z' C D _ _ M _ _ _ h3' (stOk_len0 hob)).mono ?_
    rintro e w5 ⟨v5, rfl, hS5, hb⟩
    obtain ⟨p5, cap5, hv5⟩ := hS5.shape
    subst hv5
    have hz5 := hba.size
    replace hba := hba.trans (hb.mono hba.size)
    replace kr := kr.later hb
    clear hb
    obtain ⟨hlt, r0, r1, r2, r3, r4, rf⟩ := id kr
    generalize hq : M.length = q at hS5 ⊢
    have HS5 : Hid (SpsAt true w5 w2.heap.size w5.heap.size (.slice p5 q cap5) M) := hS5
    clear hS5 hq
    go_wp2_with fail
    refine bodyPost_ret (v := .agg #[.bool b, .slice p5 q cap5, .bool d, .int .i64 l', .int .i64 u']) (by simp [results, Try.results63, go_sem, hlt, r0, r1, r2, r3, r4, rf]) rfl ?_
    rw [stB_snd hoa hob]
    refine ⟨_, rfl, ?_, ?_⟩
    · refine SpsAt.wide (B := w2.heap.size) (E := w5.heap.size) ?_ (by omega) (by simp) (by simp)
      repeat (refine SpsAt.off ?_ (by omega))
      exact HS5.out
    · repeat (refine Below.setCell ?_ (by simp <;> omega) _)
      exact hba
  cases b
  · go_enter Try.func63, Try.ntmps63
    go_wp2_with fail
    refine (stOk_impl _ z B E _ _ L _ _ _ h3).mono ?_
    rintro e w1 ⟨rfl, hb⟩
    rw [hoa]
    replace hba := hba.trans (hb.mono hba.size)
    replace ka := ka.later hb
    replace kb := kb.later hb
    replace kr := kr.later hb
    replace h3 := h3.later hb
    replace h3' := h3'.later hb
    replace kf := boxed_later kf hb
    clear hb
    obtain ⟨_, a0, a1, a2, a3, a4, af⟩ := id ka
    obtain ⟨_, b0, b1, b2, b3, b4, bf⟩ := id kb
    obtain ⟨_, r0, r1, r2, r3, r4, rf⟩ := id kr
    have f0 := kf.cell
    have ff := kf.frozen
    go_wp2_with fail
    clear a0 a1 a2 a3 a4 af b0 b1 b2 b3 b4 bf r0 r1 r2 r3 r4 rf f0 ff
    refine (stOk_impl _ z' C D _ _ M _ _ _ h3').mono ?_
    rintro e w2 ⟨rfl, hb⟩
    rw [hob]
    replace hba := hba.trans (hb.mono hba.size)
    replace ka := ka.later hb
    replace kb := kb.later hb
    replace kr := kr.later hb
    replace h3 := h3.later hb
    replace h3' := h3'.later hb
    replace kf := boxed_later kf hb
    clear hb
    obtain ⟨_, a0, a1, a2, a3, a4, af⟩ := id ka
    obtain ⟨_, b0, b1, b2, b3, b4, bf⟩ := id kb
    obtain ⟨_, r0, r1, r2, r3, r4, rf⟩ := id kr
    have f0 := kf.cell
    have ff := kf.frozen
    go_wp2_with fail
    clear a0 a1 a2 a3 a4 af b0 b1 b2 b3 b4 bf r0 r1 r2 r3 r4 rf f0 ff
    refine (copyState_any _ z B E _ _ L _ _ _ h3 (stOk_len0 hoa)).mono ?_
    rintro e w5 ⟨v5, rfl, hS5, hb⟩
    obtain ⟨p5, cap5, hv5⟩ := hS5.shape
    subst hv5
    have hz5 := hba.size
    replace hba := hba.trans (hb.mono hba.size)
    replace kr := kr.later hb
    clear hb
    obtain ⟨hlt, r0, r1, r2, r3, r4, rf⟩ := id kr
    generalize hq : L.length = q at hS5 ⊢
    have HS5 : Hid (SpsAt true w5 w2.heap.size w5.heap.size (.slice p5 q cap5) L) := hS5
    clear hS5 hq
    go_wp2_with fail
    refine bodyPost_ret (v := .agg #[.bool true, .slice p5 q cap5, .bool c, .int .i64 l, .int .i64 u]) (by simp [results, Try.results63, go_sem, hlt, r0, r1, r2, r3, r4, rf]) rfl ?_
    rw [stB_fst hoa hob rfl]
    refine ⟨_, rfl, ?_, ?_⟩
    · refine SpsAt.wide (B := w2.heap.size) (E := w5.heap.size) ?_ (by omega) (by simp) (by simp)
      repeat (refine SpsAt.off ?_ (by omega))
      exact HS5.out
    · repeat (refine Below.setCell ?_ (by simp <;> omega) _)
      exact hba
  rw [hoa, hob] at hh
  cases hh

end Go.Proofs.Ytbmjjmbimfdkoaa
