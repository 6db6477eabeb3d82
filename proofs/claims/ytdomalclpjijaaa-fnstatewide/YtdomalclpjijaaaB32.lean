import Derived.Test.YtdomalclpjijaaaB27
import Derived.Test.YtdomalclpjijaaaB25
import Derived.Test.YtdomalclpjijaaaB1
import Derived.OrdersIn
import Derived.RangeFuncCalls
import Derived.TacticsIn
/-
  The program's join of two states span by span, where one is none or not ok.
-/
namespace Go.Proofs.Ytdomalclpjijaaa
open Go.RowKit
set_option linter.unusedVariables false
set_option linter.unusedSimpArgs false

set_option maxHeartbeats 4000000 in
theorem sbs_early_false (x : World) (z z' : Bool) (B E C D : Nat) (a : Bool) (v : Value) (L : List Sp) (c : Bool) (l u : Int) (b : Bool) (v' : Value) (M : List Sp) (d : Bool) (l' u' : Int) (hh : (stOk a L (c, l, u) && stOk b M (d, l', u') && a && b) = false) (h : SpsAt z x B E v L) (h' : SpsAt z' x C D v' M) :
    Calls Try.prog 34 #[.agg #[.bool a, v, .bool c, .int .i64 l, .int .i64 u], .agg #[.bool b, v', .bool d, .int .i64 l', .int .i64 u'], .func (.func 35) #[] #[]] x fun e y => StAt (stBoth false a L (c, l, u) b M (d, l', u')) x e y := by
  obtain ⟨p, cap, hv⟩ := h.shape
  obtain ⟨p', cap', hv'⟩ := h'.shape
  generalize hn : L.length = n at hv
  generalize hm : M.length = m at hv'
  subst hv hv'
  have HN : Hid (L.length = n) := hn
  have HM : Hid (M.length = m) := hm
  clear hn hm
  have hba : Below x.heap.size x ((((x.alloc (.cells #[.bool a, .slice p n cap, .bool c, .int .i64 l, .int .i64 u] 31)).alloc (.cells #[.bool b, .slice p' m cap', .bool d, .int .i64 l', .int .i64 u'] 31)).alloc (.cells #[.func (.func 35) #[] #[]] 52)).alloc (.cells #[.bool false, .slice none 0 0, .bool false, .int .i64 0, .int .i64 0] 31)) := by go_grown
  have ka := (((Bx5.new x (.bool a) (.slice p n cap) (.bool c) (.int .i64 l) (.int .i64 u) 31).alloc (.cells #[.bool b, .slice p' m cap', .bool d, .int .i64 l', .int .i64 u'] 31)).alloc (.cells #[.func (.func 35) #[] #[]] 52)).alloc (.cells #[.bool false, .slice none 0 0, .bool false, .int .i64 0, .int .i64 0] 31)
  have kb := ((Bx5.new (x.alloc (.cells #[.bool a, .slice p n cap, .bool c, .int .i64 l, .int .i64 u] 31)) (.bool b) (.slice p' m cap') (.bool d) (.int .i64 l') (.int .i64 u') 31).alloc (.cells #[.func (.func 35) #[] #[]] 52)).alloc (.cells #[.bool false, .slice none 0 0, .bool false, .int .i64 0, .int .i64 0] 31)
  have kf := (Boxed.new ((x.alloc (.cells #[.bool a, .slice p n cap, .bool c, .int .i64 l, .int .i64 u] 31)).alloc (.cells #[.bool b, .slice p' m cap', .bool d, .int .i64 l', .int .i64 u'] 31)) 52 (.func (.func 35) #[] #[])).alloc (.cells #[.bool false, .slice none 0 0, .bool false, .int .i64 0, .int .i64 0] 31)
  have kr := Bx5.new (((x.alloc (.cells #[.bool a, .slice p n cap, .bool c, .int .i64 l, .int .i64 u] 31)).alloc (.cells #[.bool b, .slice p' m cap', .bool d, .int .i64 l', .int .i64 u'] 31)).alloc (.cells #[.func (.func 35) #[] #[]] 52)) (.bool false) (.slice none 0 0) (.bool false) (.int .i64 0) (.int .i64 0) 31
  simp only [World.size_alloc] at kb kf kr
  have h3 := h.later hba
  have h3' := h'.later hba
  cases hoa : stOk a L (c, l, u)
  · go_enter Try.func34, Try.ntmps34
    go_wp2_with fail
    refine (stOk_impl _ z B E _ _ L _ _ _ h3).mono ?_
    rintro e w1 ⟨rfl, hb⟩
    rw [hoa]
    replace hba := hba.trans (hb.mono hba.size)
    replace ka := ka.later hb
    replace kb := kb.later hb
    replace kr := kr.later hb
    replace h3 := h3.later hb
    replace h3' := h3'.later hb
    replace kf := boxed_later kf hb
    clear hb
    obtain ⟨_, a0, a1, a2, a3, a4, af⟩ := id ka
    obtain ⟨_, b0, b1, b2, b3, b4, bf⟩ := id kb
    obtain ⟨_, r0, r1, r2, r3, r4, rf⟩ := id kr
    have f0 := kf.cell
    have ff := kf.frozen
    go_wp2_with fail
    refine bodyPost_ret (v := .agg #[.bool false, .slice none 0 0, .bool false, .int .i64 0, .int .i64 0]) (by simp [results, Try.results34, go_sem, kr.lt, r0, r1, r2, r3, r4, rf]) rfl ?_
    rw [stB_no (by rw [hoa]; rfl)]
    refine ⟨_, rfl, SpsAt.nil, ?_⟩
    repeat (refine Below.setCell ?_ (by simp <;> omega) _)
    exact hba
  cases hob : stOk b M (d, l', u')
  · go_enter Try.func34, Try.ntmps34
    go_wp2_with fail
    refine (stOk_impl _ z B E _ _ L _ _ _ h3).mono ?_
    rintro e w1 ⟨rfl, hb⟩
    rw [hoa]
    replace hba := hba.trans (hb.mono hba.size)
    replace ka := ka.later hb
    replace kb := kb.later hb
    replace kr := kr.later hb
    replace h3 := h3.later hb
    replace h3' := h3'.later hb
    replace kf := boxed_later kf hb
    clear hb
    obtain ⟨_, a0, a1, a2, a3, a4, af⟩ := id ka
    obtain ⟨_, b0, b1, b2, b3, b4, bf⟩ := id kb
    obtain ⟨_, r0, r1, r2, r3, r4, rf⟩ := id kr
    have f0 := kf.cell
    have ff := kf.frozen
    go_wp2_with fail
    clear a0 a1 a2 a3 a4 af b0 b1 b2 b3 b4 bf r0 r1 r2 r3 r4 rf f0 ff
    refine (stOk_impl _ z' C D _ _ M _ _ _ h3').mono ?_
    rintro e w2 ⟨rfl, hb⟩
    rw [hob]
    replace hba := hba.trans (hb.mono hba.size)
    replace ka := ka.later hb
    replace kb := kb.later hb
    replace kr := kr.later hb
    replace h3 := h3.later hb
    replace h3' := h3'.later hb
    replace kf := boxed_later kf hb
    clear hb
    obtain ⟨_, a0, a1, a2, a3, a4, af⟩ := id ka
    obtain ⟨_, b0, b1, b2, b3, b4, bf⟩ := id kb
    obtain ⟨_, r0, r1, r2, r3, r4, rf⟩ := id kr
    have f0 := kf.cell
    have ff := kf.frozen
    go_wp2_with fail
    refine bodyPost_ret (v := .agg #[.bool false, .slice none 0 0, .bool false, .int .i64 0, .int .i64 0]) (by simp [results, Try.results34, go_sem, kr.lt, r0, r1, r2, r3, r4, rf]) rfl ?_
    rw [stB_no (by rw [hoa, hob]; rfl)]
    refine ⟨_, rfl, SpsAt.nil, ?_⟩
    repeat (refine Below.setCell ?_ (by simp <;> omega) _)
    exact hba
  cases a
  · go_enter Try.func34, Try.ntmps34
    go_wp2_with fail
    refine (stOk_impl _ z B E _ _ L _ _ _ h3).mono ?_
    rintro e w1 ⟨rfl, hb⟩
    rw [hoa]
    replace hba := hba.trans (hb.mono hba.size)
    replace ka := ka.later hb
    replace kb := kb.later hb
    replace kr := kr.later hb
    replace h3 := h3.later hb
    replace h3' := h3'.later hb
    replace kf := boxed_later kf hb
    clear hb
    obtain ⟨_, a0, a1, a2, a3, a4, af⟩ := id ka
    obtain ⟨_, b0, b1, b2, b3, b4, bf⟩ := id kb
    obtain ⟨_, r0, r1, r2, r3, r4, rf⟩ := id kr
    have f0 := kf.cell
    have ff := kf.frozen
    go_wp2_with fail
    clear a0 a1 a2 a3 a4 af b0 b1 b2 b3 b4 bf r0 r1 r2 r3 r4 rf f0 ff
    refine (stOk_impl _ z' C D _ _ M _ _ _ h3').mono ?_
    rintro e w2 ⟨rfl, hb⟩
    rw [hob]
    replace hba := hba.trans (hb.mono hba.size)
    replace ka := ka.later hb
    replace kb := kb.later hb
    replace kr := kr.later hb
    replace h3 := h3.later hb
    replace h3' := h3'.later hb
    replace kf := boxed_later kf hb
    clear hb
    obtain ⟨_, a0, a1, a2, a3, a4, af⟩ := id ka
    obtain ⟨_, b0, b1, b2, b3, b4, bf⟩ := id kb
    obtain ⟨_, r0, r1, r2, r3, r4, rf⟩ := id kr
    have f0 := kf.cell
    have ff := kf.frozen
    go_wp2_with fail
    clear a0 a1 a2 a3 a4 af b0 b1 b2 b3 b4 bf r0 r1 r2 r3 r4 rf f0 ff
    refine (copyState_any _ z' C D _ _ M _ _ _ h3' (stOk_len0 hob)).mono ?_
    rintro e w5 ⟨v5, rfl, hS5, hb⟩
    obtain ⟨p5, cap5, hv5⟩ := hS5.shape
    subst hv5
    have hz5 := hba.size
    replace hba := hba.trans (hb.mono hba.size)
    replace kr := kr.later hb
    clear hb
    obtain ⟨hlt, r0, r1, r2, r3, r4, rf⟩ := id kr
    generalize hq : M.length = q at hS5 ⊢
    have HS5 : Hid (SpsAt true w5 w2.heap.size w5.heap.size (.slice p5 q cap5) M) := hS5
    clear hS5 hq
    go_wp2_with fail
    refine bodyPost_ret (v := .agg #[.bool b, .slice p5 q cap5, .bool d, .int .i64 l', .int .i64 u']) (by simp [results, Try.results34, go_sem, hlt, r0, r1, r2, r3, r4, rf]) rfl ?_
    rw [stB_snd hoa hob]
    refine ⟨_, rfl, ?_, ?_⟩
    · refine SpsAt.wide (B := w2.heap.size) (E := w5.heap.size) ?_ (by omega) (by simp) (by simp)
      repeat (refine SpsAt.off ?_ (by omega))
      exact HS5.out
    · repeat (refine Below.setCell ?_ (by simp <;> omega) _)
      exact hba
  cases b
  · go_enter Try.func34, Try.ntmps34
    go_wp2_with fail
    refine (stOk_impl _ z B E _ _ L _ _ _ h3).mono ?_
    rintro e w1 ⟨rfl, hb⟩
    rw [hoa]
    replace hba := hba.trans (hb.mono hba.size)
    replace ka := ka.later hb
    replace kb := kb.later hb
    replace kr := kr.later hb
    replace h3 := h3.later hb
    replace h3' := h3'.later hb
    replace kf := boxed_later kf hb
    clear hb
    obtain ⟨_, a0, a1, a2, a3, a4, af⟩ := id ka
    obtain ⟨_, b0, b1, b2, b3, b4, bf⟩ := id kb
    obtain ⟨_, r0, r1, r2, r3, r4, rf⟩ := id kr
    have f0 := kf.cell
    have ff := kf.frozen
    go_wp2_with fail
    clear a0 a1 a2 a3 a4 af b0 b1 b2 b3 b4 bf r0 r1 r2 r3 r4 rf f0 ff
    refine (stOk_impl _ z' C D _ _ M _ _ _ h3').mono ?_
    rintro e w2 ⟨rfl, hb⟩
    rw [hob]
    replace hba := hba.trans (hb.mono hba.size)
    replace ka := ka.later hb
    replace kb := kb.later hb
    replace kr := kr.later hb
    replace h3 := h3.later hb
    replace h3' := h3'.later hb
    replace kf := boxed_later kf hb
    clear hb
    obtain ⟨_, a0, a1, a2, a3, a4, af⟩ := id ka
    obtain ⟨_, b0, b1, b2, b3, b4, bf⟩ := id kb
    obtain ⟨_, r0, r1, r2, r3, r4, rf⟩ := id kr
    have f0 := kf.cell
    have ff := kf.frozen
    go_wp2_with fail
    clear a0 a1 a2 a3 a4 af b0 b1 b2 b3 b4 bf r0 r1 r2 r3 r4 rf f0 ff
    refine (copyState_any _ z B E _ _ L _ _ _ h3 (stOk_len0 hoa)).mono ?_
    rintro e w5 ⟨v5, rfl, hS5, hb⟩
    obtain ⟨p5, cap5, hv5⟩ := hS5.shape
    subst hv5
    have hz5 := hba.size
    replace hba := hba.trans (hb.mono hba.size)
    replace kr := kr.later hb
    clear hb
    obtain ⟨hlt, r0, r1, r2, r3, r4, rf⟩ := id kr
    generalize hq : L.length = q at hS5 ⊢
    have HS5 : Hid (SpsAt true w5 w2.heap.size w5.heap.size (.slice p5 q cap5) L) := hS5
    clear hS5 hq
    go_wp2_with fail
    refine bodyPost_ret (v := .agg #[.bool true, .slice p5 q cap5, .bool c, .int .i64 l, .int .i64 u]) (by simp [results, Try.results34, go_sem, hlt, r0, r1, r2, r3, r4, rf]) rfl ?_
    rw [stB_fst hoa hob rfl]
    refine ⟨_, rfl, ?_, ?_⟩
    · refine SpsAt.wide (B := w2.heap.size) (E := w5.heap.size) ?_ (by omega) (by simp) (by simp)
      repeat (refine SpsAt.off ?_ (by omega))
      exact HS5.out
    · repeat (refine Below.setCell ?_ (by simp <;> omega) _)
      exact hba
  rw [hoa, hob] at hh
  cases hh

set_option maxHeartbeats 4000000 in
theorem sbs_early_true (x : World) (z z' : Bool) (B E C D : Nat) (a : Bool) (v : Value) (L : List Sp) (c : Bool) (l u : Int) (b : Bool) (v' : Value) (M : List Sp) (d : Bool) (l' u' : Int) (hh : (stOk a L (c, l, u) && stOk b M (d, l', u') && a && b) = false) (h : SpsAt z x B E v L) (h' : SpsAt z' x C D v' M) :
    Calls Try.prog 34 #[.agg #[.bool a, v, .bool c, .int .i64 l, .int .i64 u], .agg #[.bool b, v', .bool d, .int .i64 l', .int .i64 u'], .func (.func 40) #[] #[]] x fun e y => StAt (stBoth true a L (c, l, u) b M (d, l', u')) x e y := by
  obtain ⟨p, cap, hv⟩ := h.shape
  obtain ⟨p', cap', hv'⟩ := h'.shape
  generalize hn : L.length = n at hv
  generalize hm : M.length = m at hv'
  subst hv hv'
  have HN : Hid (L.length = n) := hn
  have HM : Hid (M.length = m) := hm
  clear hn hm
  have hba : Below x.heap.size x ((((x.alloc (.cells #[.bool a, .slice p n cap, .bool c, .int .i64 l, .int .i64 u] 31)).alloc (.cells #[.bool b, .slice p' m cap', .bool d, .int .i64 l', .int .i64 u'] 31)).alloc (.cells #[.func (.func 40) #[] #[]] 52)).alloc (.cells #[.bool false, .slice none 0 0, .bool false, .int .i64 0, .int .i64 0] 31)) := by go_grown
  have ka := (((Bx5.new x (.bool a) (.slice p n cap) (.bool c) (.int .i64 l) (.int .i64 u) 31).alloc (.cells #[.bool b, .slice p' m cap', .bool d, .int .i64 l', .int .i64 u'] 31)).alloc (.cells #[.func (.func 40) #[] #[]] 52)).alloc (.cells #[.bool false, .slice none 0 0, .bool false, .int .i64 0, .int .i64 0] 31)
  have kb := ((Bx5.new (x.alloc (.cells #[.bool a, .slice p n cap, .bool c, .int .i64 l, .int .i64 u] 31)) (.bool b) (.slice p' m cap') (.bool d) (.int .i64 l') (.int .i64 u') 31).alloc (.cells #[.func (.func 40) #[] #[]] 52)).alloc (.cells #[.bool false, .slice none 0 0, .bool false, .int .i64 0, .int .i64 0] 31)
  have kf := (Boxed.new ((x.alloc (.cells #[.bool a, .slice p n cap, .bool c, .int .i64 l, .int .i64 u] 31)).alloc (.cells #[.bool b, .slice p' m cap', .bool d, .int .i64 l', .int .i64 u'] 31)) 52 (.func (.func 40) #[] #[])).alloc (.cells #[.bool false, .slice none 0 0, .bool false, .int .i64 0, .int .i64 0] 31)
  have kr := Bx5.new (((x.alloc (.cells #[.bool a, .slice p n cap, .bool c, .int .i64 l, .int .i64 u] 31)).alloc (.cells #[.bool b, .slice p' m cap', .bool d, .int .i64 l', .int .i64 u'] 31)).alloc (.cells #[.func (.func 40) #[] #[]] 52)) (.bool false) (.slice none 0 0) (.bool false) (.int .i64 0) (.int .i64 0) 31
  simp only [World.size_alloc] at kb kf kr
  have h3 := h.later hba
  have h3' := h'.later hba
  cases hoa : stOk a L (c, l, u)
  · go_enter Try.func34, Try.ntmps34
    go_wp2_with fail
    refine (stOk_impl _ z B E _ _ L _ _ _ h3).mono ?_
    rintro e w1 ⟨rfl, hb⟩
    rw [hoa]
    replace hba := hba.trans (hb.mono hba.size)
    replace ka := ka.later hb
    replace kb := kb.later hb
    replace kr := kr.later hb
    replace h3 := h3.later hb
    replace h3' := h3'.later hb
    replace kf := boxed_later kf hb
    clear hb
    obtain ⟨_, a0, a1, a2, a3, a4, af⟩ := id ka
    obtain ⟨_, b0, b1, b2, b3, b4, bf⟩ := id kb
    obtain ⟨_, r0, r1, r2, r3, r4, rf⟩ := id kr
    have f0 := kf.cell
    have ff := kf.frozen
    go_wp2_with fail
    refine bodyPost_ret (v := .agg #[.bool false, .slice none 0 0, .bool false, .int .i64 0, .int .i64 0]) (by simp [results, Try.results34, go_sem, kr.lt, r0, r1, r2, r3, r4, rf]) rfl ?_
    rw [stB_no (by rw [hoa]; rfl)]
    refine ⟨_, rfl, SpsAt.nil, ?_⟩
    repeat (refine Below.setCell ?_ (by simp <;> omega) _)
    exact hba
  cases hob : stOk b M (d, l', u')
  · go_enter Try.func34, Try.ntmps34
    go_wp2_with fail
    refine (stOk_impl _ z B E _ _ L _ _ _ h3).mono ?_
    rintro e w1 ⟨rfl, hb⟩
    rw [hoa]
    replace hba := hba.trans (hb.mono hba.size)
    replace ka := ka.later hb
    replace kb := kb.later hb
    replace kr := kr.later hb
    replace h3 := h3.later hb
    replace h3' := h3'.later hb
    replace kf := boxed_later kf hb
    clear hb
    obtain ⟨_, a0, a1, a2, a3, a4, af⟩ := id ka
    obtain ⟨_, b0, b1, b2, b3, b4, bf⟩ := id kb
    obtain ⟨_, r0, r1, r2, r3, r4, rf⟩ := id kr
    have f0 := kf.cell
    have ff := kf.frozen
    go_wp2_with fail
    clear a0 a1 a2 a3 a4 af b0 b1 b2 b3 b4 bf r0 r1 r2 r3 r4 rf f0 ff
    refine (stOk_impl _ z' C D _ _ M _ _ _ h3').mono ?_
    rintro e w2 ⟨rfl, hb⟩
    rw [hob]
    replace hba := hba.trans (hb.mono hba.size)
    replace ka := ka.later hb
    replace kb := kb.later hb
    replace kr := kr.later hb
    replace h3 := h3.later hb
    replace h3' := h3'.later hb
    replace kf := boxed_later kf hb
    clear hb
    obtain ⟨_, a0, a1, a2, a3, a4, af⟩ := id ka
    obtain ⟨_, b0, b1, b2, b3, b4, bf⟩ := id kb
    obtain ⟨_, r0, r1, r2, r3, r4, rf⟩ := id kr
    have f0 := kf.cell
    have ff := kf.frozen
    go_wp2_with fail
    refine bodyPost_ret (v := .agg #[.bool false, .slice none 0 0, .bool false, .int .i64 0, .int .i64 0]) (by simp [results, Try.results34, go_sem, kr.lt, r0, r1, r2, r3, r4, rf]) rfl ?_
    rw [stB_no (by rw [hoa, hob]; rfl)]
    refine ⟨_, rfl, SpsAt.nil, ?_⟩
    repeat (refine Below.setCell ?_ (by simp <;> omega) _)
    exact hba
  cases a
  · go_enter Try.func34, Try.ntmps34
    go_wp2_with fail
    refine (stOk_impl _ z B E _ _ L _ _ _ h3).mono ?_
    rintro e w1 ⟨rfl, hb⟩
    rw [hoa]
    replace hba := hba.trans (hb.mono hba.size)
    replace ka := ka.later hb
    replace kb := kb.later hb
    replace kr := kr.later hb
    replace h3 := h3.later hb
    replace h3' := h3'.later hb
    replace kf := boxed_later kf hb
    clear hb
    obtain ⟨_, a0, a1, a2, a3, a4, af⟩ := id ka
    obtain ⟨_, b0, b1, b2, b3, b4, bf⟩ := id kb
    obtain ⟨_, r0, r1, r2, r3, r4, rf⟩ := id kr
    have f0 := kf.cell
    have ff := kf.frozen
    go_wp2_with fail
    clear a0 a1 a2 a3 a4 af b0 b1 b2 b3 b4 bf r0 r1 r2 r3 r4 rf f0 ff
    refine (stOk_impl _ z' C D _ _ M _ _ _ h3').mono ?_
    rintro e w2 ⟨rfl, hb⟩
    rw [hob]
    replace hba := hba.trans (hb.mono hba.size)
    replace ka := ka.later hb
    replace kb := kb.later hb
    replace kr := kr.later hb
    replace h3 := h3.later hb
    replace h3' := h3'.later hb
    replace kf := boxed_later kf hb
    clear hb
    obtain ⟨_, a0, a1, a2, a3, a4, af⟩ := id ka
    obtain ⟨_, b0, b1, b2, b3, b4, bf⟩ := id kb
    obtain ⟨_, r0, r1, r2, r3, r4, rf⟩ := id kr
    have f0 := kf.cell
    have ff := kf.frozen
    go_wp2_with fail
    clear a0 a1 a2 a3 a4 af b0 b1 b2 b3 b4 bf r0 r1 r2 r3 r4 rf f0 ff
    refine (copyState_any _ z' C D _ _ M _ _ _ h3' (stOk_len0 hob)).mono ?_
    rintro e w5 ⟨v5, rfl, hS5, hb⟩
    obtain ⟨p5, cap5, hv5⟩ := hS5.shape
    subst hv5
    have hz5 := hba.size
    replace hba := hba.trans (hb.mono hba.size)
    replace kr := kr.later hb
    clear hb
    obtain ⟨hlt, r0, r1, r2, r3, r4, rf⟩ := id kr
    generalize hq : M.length = q at hS5 ⊢
    have HS5 : Hid (SpsAt true w5 w2.heap.size w5.heap.size (.slice p5 q cap5) M) := hS5
    clear hS5 hq
    go_wp2_with fail
    refine bodyPost_ret (v := .agg #[.bool b, .slice p5 q cap5, .bool d, .int .i64 l', .int .i64 u']) (by simp [results, Try.results34, go_sem, hlt, r0, r1, r2, r3, r4, rf]) rfl ?_
    rw [stB_snd hoa hob]
    refine ⟨_, rfl, ?_, ?_⟩
    · refine SpsAt.wide (B := w2.heap.size) (E := w5.heap.size) ?_ (by omega) (by simp) (by simp)
      repeat (refine SpsAt.off ?_ (by omega))
      exact HS5.out
    · repeat (refine Below.setCell ?_ (by simp <;> omega) _)
      exact hba
  cases b
  · go_enter Try.func34, Try.ntmps34
    go_wp2_with fail
    refine (stOk_impl _ z B E _ _ L _ _ _ h3).mono ?_
    rintro e w1 ⟨rfl, hb⟩
    rw [hoa]
    replace hba := hba.trans (hb.mono hba.size)
    replace ka := ka.later hb
    replace kb := kb.later hb
    replace kr := kr.later hb
    replace h3 := h3.later hb
    replace h3' := h3'.later hb
    replace kf := boxed_later kf hb
    clear hb
    obtain ⟨_, a0, a1, a2, a3, a4, af⟩ := id ka
    obtain ⟨_, b0, b1, b2, b3, b4, bf⟩ := id kb
    obtain ⟨_, r0, r1, r2, r3, r4, rf⟩ := id kr
    have f0 := kf.cell
    have ff := kf.frozen
    go_wp2_with fail
    clear a0 a1 a2 a3 a4 af b0 b1 b2 b3 b4 bf r0 r1 r2 r3 r4 rf f0 ff
    refine (stOk_impl _ z' C D _ _ M _ _ _ h3').mono ?_
    rintro e w2 ⟨rfl, hb⟩
    rw [hob]
    replace hba := hba.trans (hb.mono hba.size)
    replace ka := ka.later hb
    replace kb := kb.later hb
    replace kr := kr.later hb
    replace h3 := h3.later hb
    replace h3' := h3'.later hb
    replace kf := boxed_later kf hb
    clear hb
    obtain ⟨_, a0, a1, a2, a3, a4, af⟩ := id ka
    obtain ⟨_, b0, b1, b2, b3, b4, bf⟩ := id kb
    obtain ⟨_, r0, r1, r2, r3, r4, rf⟩ := id kr
    have f0 := kf.cell
    have ff := kf.frozen
    go_wp2_with fail
    clear a0 a1 a2 a3 a4 af b0 b1 b2 b3 b4 bf r0 r1 r2 r3 r4 rf f0 ff
    refine (copyState_any _ z B E _ _ L _ _ _ h3 (stOk_len0 hoa)).mono ?_
    rintro e w5 ⟨v5, rfl, hS5, hb⟩
    obtain ⟨p5, cap5, hv5⟩ := hS5.shape
    subst hv5
    have hz5 := hba.size
    replace hba := hba.trans (hb.mono hba.size)
    replace kr := kr.later hb
    clear hb
    obtain ⟨hlt, r0, r1, r2, r3, r4, rf⟩ := id kr
    generalize hq : L.length = q at hS5 ⊢
    have HS5 : Hid (SpsAt true w5 w2.heap.size w5.heap.size (.slice p5 q cap5) L) := hS5
    clear hS5 hq
    go_wp2_with fail
    refine bodyPost_ret (v := .agg #[.bool true, .slice p5 q cap5, .bool c, .int .i64 l, .int .i64 u]) (by simp [results, Try.results34, go_sem, hlt, r0, r1, r2, r3, r4, rf]) rfl ?_
    rw [stB_fst hoa hob rfl]
    refine ⟨_, rfl, ?_, ?_⟩
    · refine SpsAt.wide (B := w2.heap.size) (E := w5.heap.size) ?_ (by omega) (by simp) (by simp)
      repeat (refine SpsAt.off ?_ (by omega))
      exact HS5.out
    · repeat (refine Below.setCell ?_ (by simp <;> omega) _)
      exact hba
  rw [hoa, hob] at hh
  cases hh

end Go.Proofs.Ytdomalclpjijaaa

/-
  A region that draws its order, in a round of a loop over a function: by a condition on what has come up, one step an operation.
-/
namespace Go.Proofs.Ytdomalclpjijaaa
open Go.RowKit
set_option linter.unusedVariables false
set_option linter.unusedSimpArgs false

section
variable {P : Program} {ops : Array Oper} {Q : Exit → Act → World → Prop} {md : Region.Mode}

theorem upon_in {o : Oper} {a : Act} {K : Act → World → Prop} {l n : Nat} {r : Result Next} (h : o.upon P a K Q r) : o.uponIn (Fence.wide.inRound l) n P a K Q r := by
  cases r with
  | ok x w' =>
    cases x <;> first
      | exact h
      | exact False.elim h
      | exact ⟨fun h => (by cases h), (callsIn_wide.2 h).inRound l⟩
      | exact ⟨fun h => (by cases h), fun c cs _ => let ⟨v, w', r, s⟩ := h c cs; ⟨v, w', r, stepsIn_wide.2 s⟩⟩
  | halt x w' => cases x <;> first | exact h | exact False.elim h

theorem wp_in {o : Oper} {a : Act} {w : World} {K : Act → World → Prop} {l n : Nat} (hnd : ∀ c, o.op ≠ Op.defer c) (h : o.wp P a w K Q) : o.wpIn (Fence.wide.inRound l) n P a w K Q := by
  refine ⟨fun _ _ => trivial, ?_⟩
  rw [Fence.inRound_round, Oper.semAt_some l _ _ hnd]
  exact upon_in h

theorem wpAnyIn_inv {F : Fence} {n : Nat} (hbk : backB md ops = true) (I : Array Bool → Act → World → Prop)
    (step : ∀ listed a w, I listed a w → ∀ (i : Nat) (o : Oper), ops[i]? = some o → listed.getD i true = false → (∀ e ∈ o.after, Region.binds md e = true → listed.getD e.on false = true) → wpOpIn F n P ops Q i (I (listed.setIfInBounds i true)) a w)
    (fin : ∀ listed a w, I listed a w → (∀ i, i < ops.size → listed.getD i true = true) → Q .normal a w) :
    ∀ (fuel : Nat) (listed : Array Bool) (a : Act) (w : World), listed.size = ops.size → (List.range ops.size).countP (fun i => !listed.getD i true) ≤ fuel → I listed a w → wpAnyIn F n P md ops Q fuel listed a w
  | 0, listed, a, w, hs, hc, hI => by
    have hall : ∀ i, i < ops.size → listed.getD i true = true := fun i hi => by
      have h0 : (List.range ops.size).countP (fun i => !listed.getD i true) = 0 := by omega
      rw [List.countP_eq_zero] at h0
      have := h0 i (List.mem_range.2 hi)
      simpa using this
    refine ⟨?_, fin _ _ _ hI hall⟩
    unfold Region.ready
    rw [List.filter_eq_nil_iff]
    intro i hi
    rw [hall i (List.mem_range.1 hi)]
    simp
  | fuel + 1, listed, a, w, hs, hc, hI => by
    refine ⟨fun hr => fin _ _ _ hI fun i hi => all_listed hbk hs hr (i + 1) i (by omega) hi, fun i hi => ?_⟩
    obtain ⟨hun, o, ho, hpre⟩ := mem_ready.1 hi
    refine wpOpIn_mono (fun a' w' h' => wpAnyIn_inv hbk I step fin fuel _ a' w' (by simpa using hs) ?_ h') (step _ _ _ hI i o ho hun hpre)
    have hi' : i < ops.size := (Array.getElem?_eq_some_iff.1 ho).1
    have hlt := cnt_lt (p := fun j => !listed.getD j true) (q := fun j => !(listed.setIfInBounds i true).getD j true) (i := i) (List.range ops.size) (List.mem_range.2 hi') (by simp only [hun]; rfl) (by
      have : i < listed.size := by omega
      simp [this]) (fun j hj => by
        by_cases hij : i = j
        · subst hij
          have : i < listed.size := by omega
          simp [this] at hj
        · simp only [getD_set_ne true hij] at hj; exact hj)
    omega

/-- in a round at the wide fence: each operation by the plain calculus -/
theorem wpIn_round_inv {l n : Nat} {id : Nat} {a : Act} {w : World} (hm : P.follows .mixedOrders = true) (hbk : backB .any ops = true) (hg : ∀ (i : Nat) (o : Oper), ops[i]? = some o → o.guard = none ∧ ∀ c, o.op ≠ Op.defer c) (I : Array Bool → Act → World → Prop)
    (start : I (Array.replicate ops.size false) a w.drew)
    (step : ∀ listed a w, I listed a w → ∀ (i : Nat) (o : Oper), ops[i]? = some o → listed.getD i true = false → (∀ e ∈ o.after, Region.binds .any e = true → listed.getD e.on false = true) → ∀ K : Act → World → Prop, (∀ a' w', I (listed.setIfInBounds i true) a' w' → K a' w') → o.wp P a w K Q)
    (fin : ∀ listed a w, I listed a w → (∀ i, i < ops.size → listed.getD i true = true) → Q .normal a w) : (Code.region id ops true).wpIn (Fence.wide.inRound l) n P Q a w :=
  wpIn_region_any hm (wpAnyIn_inv hbk I (fun listed a w hI i o ho hun hpre => by
    unfold wpOpIn
    rw [ho]
    have hw : Region.wanted o (yielded ops a.tmps) = true := by unfold Region.wanted; rw [(hg i o ho).1]
    simp only [hw, if_true]
    exact wp_in (hg i o ho).2 (step listed a w hI i o ho hun hpre _ fun _ _ q => q)) fin _ _ _ _ (by simp) (by
    have := List.countP_le_length (p := fun i => !(Array.replicate ops.size false).getD i true) (l := List.range ops.size)
    simpa using this) start)
end
end Go.Proofs.Ytdomalclpjijaaa
