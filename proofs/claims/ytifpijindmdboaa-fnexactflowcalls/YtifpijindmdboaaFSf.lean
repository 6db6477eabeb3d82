/-
  The contract of the program's sitesFrom.
-/
import Derived.Test.YtifpijindmdboaaFMay
import Derived.Test.YtifpijindmdboaaFSite
namespace Go.Proofs.Ytifpijindmdboaa
open Go.RowKit
set_option linter.unusedVariables false
set_option linter.unusedSimpArgs false

/-- what may be wrong at a place -/
def siteF (c : List I4) (n m : Nat) (L : List Sp) : Option T3 := if m = c.length then none else if mayF (c.getD m i0) L = true then some (n, m, faultF (c.getD m i0)) else none

set_option maxRecDepth 100000 in
set_option maxHeartbeats 4000000 in
theorem sitesFrom_any (x0 : World) (P : List (List I4)) (n m : Nat) (hn : n < P.length) (hm : m ≤ (P.getD n []).length) (hok : progOkF P = true) (z : Bool) (C E : Nat) (a : Bool) (s : Value) (L : List Sp) (c : Bool) (l u : Int) (hs : SpsAt z x0 C E s L) (hL : L.length = 3) :
    Calls Try.prog 54 #[insF (P.getD n []) m, .int .i64 n, .int .i64 m, .agg #[.bool a, s, .bool c, .int .i64 l, .int .i64 u]] x0 fun e y => ∃ v, e = .returned v ∧ SitesAt y x0.heap.size y.heap.size v (siteF (P.getD n []) n m L) ∧ Below x0.heap.size x0 y := by
  obtain ⟨ps, cs, rfl⟩ := hs.shape
  rw [hL] at hs ⊢
  obtain ⟨g, o, rfl, hg, hq⟩ := hs.threeF hL
  have HQ : Hid (Rg3 x0 g o L) := ⟨hg, hq⟩
  clear hs hL hq
  by_cases he : m = (P.getD n []).length
  · rw [show insF (P.getD n []) m = .nilIface by simp only [insF, he, if_true], show siteF (P.getD n []) n m L = none by simp only [siteF, he, if_true]]
    clear he hm hn hok
    go_enter Try.func54, Try.ntmps54
    go_wp2_with fail
    refine (mayBe_nil _ _).mono ?_
    rintro e y ⟨rfl, hb⟩
    have hB : Below x0.heap.size x0 y := ((Below.refl _ _).alloc (Nat.le_refl _) _).trans (hb.mono (by simp))
    go_wp2_with fail
    go_ret
    exact ⟨_, rfl, ⟨_, _, rfl⟩, hB⟩
  · have hlt : m < (P.getD n []).length := by omega
    have hins := (progOkF_code hok hn).2 m hlt
    have hk := insOkF_kind hins
    have hr := insOkF_regs hins
    rw [show insF (P.getD n []) m = ifcF ((P.getD n []).getD m i0) by simp only [insF, he, if_false], show siteF (P.getD n []) n m L = if mayF ((P.getD n []).getD m i0) L = true then some ((n : Int), (m : Int), faultF ((P.getD n []).getD m i0)) else none by simp only [siteF, he, if_false]]
    generalize (P.getD n []).getD m i0 = I at hk hr ⊢
    clear he hm hn hok hlt hins
    obtain ⟨f, hf⟩ : ∃ f, mayF I L = f := ⟨_, rfl⟩
    have HM : Hid (∀ z : World, Rg3 z g o L → Calls Try.prog 91 #[ifcF I, .slice (some ⟨g, o, none⟩) 3 cs] z fun e y => e = .returned (.bool f) ∧ Below z.heap.size z y) := fun z hz => by have := mayBeWrong_any z I hk.1 hk.2.1 hr g o cs L hz; rw [hf] at this; exact this
    have HFT : Hid (∀ z : World, Calls Try.prog 92 #[ifcF I] z fun e y => e = .returned (.int .i64 (faultF I)) ∧ Below z.heap.size z y) := fun z => faultOf_any I hk.1 hk.2.1 z
    rw [hf]
    clear hf hk hr
    generalize faultF I = F at HFT ⊢
    generalize ifcF I = V at HM HFT ⊢
    have hA : Below x0.heap.size x0 (x0.alloc (.cells #[.bool a, .slice (some ⟨g, o, none⟩) 3 cs, .bool c, .int .i64 l, .int .i64 u] 36)) := (Below.refl _ _).alloc (Nat.le_refl _) _
    have HA : Hid (Below x0.heap.size x0 (x0.alloc (.cells #[.bool a, .slice (some ⟨g, o, none⟩) 3 cs, .bool c, .int .i64 l, .int .i64 u] 36))) := hA
    clear hA
    go_enter Try.func54, Try.ntmps54
    go_wp2_with fail
    refine (HM.out _ (HQ.out.later HA.out)).mono ?_
    rintro e y ⟨rfl, hb⟩
    have hB := HA.out.trans (hb.mono HA.out.size)
    clear hb
    cases f
    · go_wp2_with fail
      go_ret
      exact ⟨_, rfl, ⟨_, _, rfl⟩, hB⟩
    · go_wp2_with fail
      refine (HFT.out _).mono ?_
      rintro e y2 ⟨rfl, hb2⟩
      have hB2 := hB.trans (hb2.mono hB.size)
      go_wp2_with fail
      go_ret
      refine ⟨_, rfl, ?_, hB2.alloc hB2.size _⟩
      exact ⟨y2.heap.size, _, rfl, hB2.size, by simp, Nat.le_refl _, by simp [go_sem], by simp [go_sem], by simp [go_sem], by simp [go_sem], by simp [go_sem], by simp [go_sem]⟩

end Go.Proofs.Ytifpijindmdboaa
