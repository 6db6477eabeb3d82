import Derived.Test.YtlkebkajdlgebaaGreatB8
import Derived.Maps.AppendAt
import Derived.Laws.RangeString
import Derived.OwnWalk
/-
  A range over a text, wherever its iterator lies.
-/
namespace Go.Proofs.YtlkebkajdlgebaaGreat
open Go.RowKit
set_option linter.unusedVariables false
set_option linter.unusedSimpArgs false
/-- the world with the iterator at k set on -/
def itSet (y : World) (k : Nat) (s : ByteArray) (pos : Nat) : World := { y with heap := y.heap.setIfInBounds k (.stringIter s pos) }
theorem next_at {P : Program} (y : World) (k : Nat) (s : ByteArray) (pos : Nat) (ty : TypeId) (hk : y.heap[k]? = some (.stringIter s pos)) (h : pos < s.size) (ha : (s[pos]'h).toNat < 128) :
    (Instr.next (.pointer (some ⟨k, 0, none⟩)) true ty).run P y = .ok (.tuple #[.bool true, .int .i64 pos, .int .i32 (s[pos]'h).toNat]) (itSet y k s (pos + 1)) := by
  simp only [Instr.next, getObj, setObj, Sem.run_bind, Sem.run, hk, Result.andThen, h, if_true, decode_ascii s pos h ha]
  simp [goInt, Sem.run, itSet]
theorem next_end_at {P : Program} (y : World) (k : Nat) (s : ByteArray) (pos : Nat) (ty : TypeId) (hk : y.heap[k]? = some (.stringIter s pos)) (h : ¬ pos < s.size) :
    (Instr.next (.pointer (some ⟨k, 0, none⟩)) true ty).run P y = .ok (.tuple #[.bool false]) y := by
  simp [Instr.next, getObj, Sem.run, hk, h]
end Go.Proofs.YtlkebkajdlgebaaGreat

/-
  The contract of the program's numbersOf: pointers to the numbers that letters name.
-/
namespace Go.Proofs.YtlkebkajdlgebaaGreat
open Go.RowKit
set_option linter.unusedVariables false
set_option linter.unusedSimpArgs false

def PL (s : ByteArray) (b n : Nat) : List Value := (s.data.toList.take n).map fun c => .pointer (some ⟨b, c.toNat - 64, none⟩)
theorem PL_succ (s : ByteArray) (b n : Nat) (h : n < s.size) : PL s b (n + 1) = PL s b n ++ [.pointer (some ⟨b, (s[n]'h).toNat - 64, none⟩)] := by
  unfold PL
  rw [List.take_succ_eq_append_getElem (by simpa using h), List.map_append]
  rfl
theorem PL_len (s : ByteArray) (b n : Nat) (h : n ≤ s.size) : (PL s b n).length = n := by
  unfold PL; simp; omega
def itPos (y : World) (k : Nat) : Nat := match y.heap[k]? with | some (.stringIter _ p) => p | _ => 0
theorem itPos_at {y : World} {k p : Nat} {s : ByteArray} (h : y.heap[k]? = some (.stringIter s p)) : itPos y k = p := by unfold itPos; rw [h]
theorem itSet_grown (y : World) (k : Nat) (s : ByteArray) (p : Nat) : y.grownBy (itSet y k s p) (some k) :=
  ⟨rfl, rfl, rfl, by simp [itSet], fun j hj hne => by
    have : k ≠ j := fun e => hne (by rw [e])
    simp [itSet, Array.getElem?_setIfInBounds_ne this]⟩
theorem itSet_here (y : World) (k : Nat) (s : ByteArray) (p : Nat) (h : k < y.heap.size) : (itSet y k s p).heap[k]? = some (.stringIter s p) := by
  simp [itSet, h]
theorem below_itSet {q : Nat} {x y : World} {k p : Nat} {s : ByteArray} (h : Below q x y) (hk : q ≤ k) : Below q x (itSet y k s p) :=
  ⟨h.os, h.tape, h.output, by have := h.size; simpa [itSet] using this, fun j hj => by
    have : k ≠ j := by omega
    have h2 := h.block j hj
    simp [itSet, Array.getElem?_setIfInBounds_ne this, h2]⟩
theorem infoPtr : (Tryz.prog.info? 181).map (fun i => (i.zero, i.size, i.bytes)) = some (some (.pointer none), 1, 8) := by kernel_rfl

set_option maxRecDepth 100000 in
set_option maxHeartbeats 4000000 in
theorem numbersOf_any (b : Nat) (s : ByteArray) (x : World) (hs : ∀ (j : Nat) (h : j < s.size), (s[j]'h) = 65 ∨ (s[j]'h) = 66 ∨ (s[j]'h) = 67) (hz : s.size ≤ 3) :
    Calls Tryz.prog 103 #[.pointer (some ⟨b, 0, none⟩), .string s] x fun e y => ∃ v, e = .returned v ∧ y.ownsRow (x.heap.size + 1) 181 1 v s.size (PL s b s.size) ∧ Below x.heap.size x y := by
  obtain ⟨i, hi, hz0, hz1, hz2⟩ : ∃ i, Tryz.prog.info? 181 = some i ∧ i.zero = some (.pointer none) ∧ i.size = 1 ∧ i.bytes = 8 := info_parts infoPtr
  have HI : Hid (Tryz.prog.info? 181 = some i ∧ i.zero = some (.pointer none) ∧ i.size = 1 ∧ i.bytes = 8) := ⟨hi, hz0, hz1, hz2⟩
  clear hi hz0 hz1 hz2
  have HS : Hid (∀ (j : Nat) (h : j < s.size), (s[j]'h) = 65 ∨ (s[j]'h) = 66 ∨ (s[j]'h) = 67) := hs
  have HZ : Hid (s.size ≤ 3) := hz
  clear hs hz
  go_enter Tryz.func103, Tryz.ntmps103
  go_wp2_with fail
  go_loopw [5] (fun v y => ∃ n : Nat, n ≤ s.size ∧ Hid (y.heap[x.heap.size]? = some (.stringIter s n) ∧ y.ownsRow (x.heap.size + 1) 181 1 v n (PL s b n) ∧ Below x.heap.size x y)) (fun _ y => s.size - itPos y x.heap.size)
  case atStart =>
    refine ⟨0, Nat.zero_le _, ?_, World.ownsRow_nil _ _ _ _, ?_⟩
    · exact World.iter_heap x s 0
    · exact (Below.refl x.heap.size x).alloc (Nat.le_refl _) (.stringIter s 0)
  case round =>
    obtain ⟨n, hn, HR⟩ := hrel
    by_cases hlt : n < s.size
    · obtain ⟨h1, h2, h3⟩ := HR.out
      have hk : x.heap.size < wr.heap.size := (Array.getElem?_eq_some_iff.1 h1).1
      have c3 := HS.out n hlt
      have n0 : ∀ ty, (Instr.next (.pointer (some ⟨x.heap.size, 0, none⟩)) true ty).run Tryz.prog wr = .ok (.tuple #[.bool true, .int .i64 n, .int .i32 (s[n]'hlt).toNat]) (itSet wr x.heap.size s (n + 1)) := fun ty => next_at wr x.heap.size s n ty h1 hlt (by rcases c3 with e | e | e <;> rw [e] <;> decide)
      have HP := PL_succ s b n hlt
      have o2 := World.ownsRow.kept h2 (itSet_grown wr x.heap.size s (n + 1)) (by
        cases hv : u5.ownBlock with
        | none => simp
        | some k => have := (World.ownsRow.lt h2 k hv).1; simp; omega)
      have g2 := itSet_here wr x.heap.size s (n + 1) hk
      have b2 : Below x.heap.size x (itSet wr x.heap.size s (n + 1)) := below_itSet h3 (Nat.le_refl _)
      have HN : Hid (PL s b (n + 1) = PL s b n ++ [.pointer (some ⟨b, (s[n]'hlt).toNat - 64, none⟩)]) := HP
      have HO : Hid ((itSet wr x.heap.size s (n + 1)).ownsRow (x.heap.size + 1) 181 1 u5 n (PL s b n) ∧ (itSet wr x.heap.size s (n + 1)).heap[x.heap.size]? = some (.stringIter s (n + 1)) ∧ Below x.heap.size x (itSet wr x.heap.size s (n + 1))) := ⟨o2, g2, b2⟩
      have HM : Hid (itPos wr x.heap.size = n) := itPos_at h1
      have HB : Hid (∀ k, u5.ownBlock = some k → x.heap.size < k) := fun k hk => by have := (World.ownsRow.lt h2 k hk).1; omega
      clear h1 h2 h3 HP o2 g2 b2 HR
      generalize itSet wr x.heap.size s (n + 1) = z at *
      rcases c3 with e | e | e
      · rw [e] at n0 HN
        have n1 : ∀ ty, (Instr.next (.pointer (some ⟨x.heap.size, 0, none⟩)) true ty).run Tryz.prog wr = .ok (.tuple #[.bool true, .int .i64 n, .int .i32 65]) z := n0
        have HN' : Hid (PL s b (n + 1) = PL s b n ++ [.pointer (some ⟨b, 1, none⟩)]) := HN.out
        clear n0 HN e
        have hn3 : n ≤ 3 := by have := HZ.out; omega
        have hzx : x.heap.size < z.heap.size := (Array.getElem?_eq_some_iff.1 HO.out.2.1).1
        go_wp2_with (at_builtin; refine wpList_append_own_at _ rfl _ _ 178 rfl (x.heap.size + 1) 181 i (.pointer none) 1 8 Tryz.underlying178 HI.out.1 HI.out.2.1 HI.out.2.2.1 HI.out.2.2.2 rfl (by decide) _ n (PL s b n) rfl (World.ownsRow.alloc HO.out.1 _) ⟨z.heap.size, 0, none⟩ 1 1 [.pointer (some ⟨b, 1, none⟩)] rfl rfl ?c1 ?c2 ?c3 ?c4 ?c5 ?_)
        case c1 =>
          intro k u hu
          match k, hu with
          | 0, hu => simp at hu; subst hu; simp [Addr.add, go_sem]
        case c2 => intro u hu; simp at hu; subst hu; rfl
        case c3 => unfold maxLen; omega
        case c4 => omega
        case c5 => simp; omega
        · intro v' w3 hown' hgrow hx hat
          have ba := fun (j : Nat) (hj : j < z.heap.size) => ((Below.refl z.heap.size z).alloc (Nat.le_refl _) (.cells #[.pointer (some ⟨b, 1, none⟩)] 181)).block j hj
          have k1 : w3.heap[x.heap.size]? = some (.stringIter s (n + 1)) := by
            rw [hgrow.block x.heap.size (by simp; omega) (by
              cases hv : u5.ownBlock with
              | none => simp
              | some k => have := HB.out k hv; simp; omega)]
            rw [← HO.out.2.1]
            exact ba _ hzx
          have k2 : Below x.heap.size x w3 := HO.out.2.2.trans ⟨hgrow.os, hgrow.tape, hgrow.output, by have := hgrow.size; simp at this; omega, fun j hj => by
            rw [hgrow.block j (by simp; omega) (by
              cases hv : u5.ownBlock with
              | none => simp
              | some k => have := HB.out k hv; simp; omega)]
            exact ba _ (by omega)⟩
          have k3 : w3.ownsRow (x.heap.size + 1) 181 1 v' (n + 1) (PL s b (n + 1)) := by rw [HN'.out]; exact hown'
          have K : Hid (w3.heap[x.heap.size]? = some (.stringIter s (n + 1)) ∧ w3.ownsRow (x.heap.size + 1) 181 1 v' (n + 1) (PL s b (n + 1)) ∧ Below x.heap.size x w3) := ⟨k1, k3, k2⟩
          have KM : Hid (itPos w3 x.heap.size = n + 1) := itPos_at k1
          clear k1 k2 k3 hown' hgrow hat hx HO ba
          go_wp2
          go_roundw
          case rel => exact ⟨n + 1, by omega, K.out⟩
          case measure => rw [KM.out, HM.out]; omega
      · rw [e] at n0 HN
        have n1 : ∀ ty, (Instr.next (.pointer (some ⟨x.heap.size, 0, none⟩)) true ty).run Tryz.prog wr = .ok (.tuple #[.bool true, .int .i64 n, .int .i32 66]) z := n0
        have HN' : Hid (PL s b (n + 1) = PL s b n ++ [.pointer (some ⟨b, 2, none⟩)]) := HN.out
        clear n0 HN e
        have hn3 : n ≤ 3 := by have := HZ.out; omega
        have hzx : x.heap.size < z.heap.size := (Array.getElem?_eq_some_iff.1 HO.out.2.1).1
        go_wp2_with (at_builtin; refine wpList_append_own_at _ rfl _ _ 178 rfl (x.heap.size + 1) 181 i (.pointer none) 1 8 Tryz.underlying178 HI.out.1 HI.out.2.1 HI.out.2.2.1 HI.out.2.2.2 rfl (by decide) _ n (PL s b n) rfl (World.ownsRow.alloc HO.out.1 _) ⟨z.heap.size, 0, none⟩ 1 1 [.pointer (some ⟨b, 2, none⟩)] rfl rfl ?c1 ?c2 ?c3 ?c4 ?c5 ?_)
        case c1 =>
          intro k u hu
          match k, hu with
          | 0, hu => simp at hu; subst hu; simp [Addr.add, go_sem]
        case c2 => intro u hu; simp at hu; subst hu; rfl
        case c3 => unfold maxLen; omega
        case c4 => omega
        case c5 => simp; omega
        · intro v' w3 hown' hgrow hx hat
          have ba := fun (j : Nat) (hj : j < z.heap.size) => ((Below.refl z.heap.size z).alloc (Nat.le_refl _) (.cells #[.pointer (some ⟨b, 2, none⟩)] 181)).block j hj
          have k1 : w3.heap[x.heap.size]? = some (.stringIter s (n + 1)) := by
            rw [hgrow.block x.heap.size (by simp; omega) (by
              cases hv : u5.ownBlock with
              | none => simp
              | some k => have := HB.out k hv; simp; omega)]
            rw [← HO.out.2.1]
            exact ba _ hzx
          have k2 : Below x.heap.size x w3 := HO.out.2.2.trans ⟨hgrow.os, hgrow.tape, hgrow.output, by have := hgrow.size; simp at this; omega, fun j hj => by
            rw [hgrow.block j (by simp; omega) (by
              cases hv : u5.ownBlock with
              | none => simp
              | some k => have := HB.out k hv; simp; omega)]
            exact ba _ (by omega)⟩
          have k3 : w3.ownsRow (x.heap.size + 1) 181 1 v' (n + 1) (PL s b (n + 1)) := by rw [HN'.out]; exact hown'
          have K : Hid (w3.heap[x.heap.size]? = some (.stringIter s (n + 1)) ∧ w3.ownsRow (x.heap.size + 1) 181 1 v' (n + 1) (PL s b (n + 1)) ∧ Below x.heap.size x w3) := ⟨k1, k3, k2⟩
          have KM : Hid (itPos w3 x.heap.size = n + 1) := itPos_at k1
          clear k1 k2 k3 hown' hgrow hat hx HO ba
          go_wp2
          go_roundw
          case rel => exact ⟨n + 1, by omega, K.out⟩
          case measure => rw [KM.out, HM.out]; omega
      · rw [e] at n0 HN
        have n1 : ∀ ty, (Instr.next (.pointer (some ⟨x.heap.size, 0, none⟩)) true ty).run Tryz.prog wr = .ok (.tuple #[.bool true, .int .i64 n, .int .i32 67]) z := n0
        have HN' : Hid (PL s b (n + 1) = PL s b n ++ [.pointer (some ⟨b, 3, none⟩)]) := HN.out
        clear n0 HN e
        have hn3 : n ≤ 3 := by have := HZ.out; omega
        have hzx : x.heap.size < z.heap.size := (Array.getElem?_eq_some_iff.1 HO.out.2.1).1
        go_wp2_with (at_builtin; refine wpList_append_own_at _ rfl _ _ 178 rfl (x.heap.size + 1) 181 i (.pointer none) 1 8 Tryz.underlying178 HI.out.1 HI.out.2.1 HI.out.2.2.1 HI.out.2.2.2 rfl (by decide) _ n (PL s b n) rfl (World.ownsRow.alloc HO.out.1 _) ⟨z.heap.size, 0, none⟩ 1 1 [.pointer (some ⟨b, 3, none⟩)] rfl rfl ?c1 ?c2 ?c3 ?c4 ?c5 ?_)
        case c1 =>
          intro k u hu
          match k, hu with
          | 0, hu => simp at hu; subst hu; simp [Addr.add, go_sem]
        case c2 => intro u hu; simp at hu; subst hu; rfl
        case c3 => unfold maxLen; omega
        case c4 => omega
        case c5 => simp; omega
        · intro v' w3 hown' hgrow hx hat
          have ba := fun (j : Nat) (hj : j < z.heap.size) => ((Below.refl z.heap.size z).alloc (Nat.le_refl _) (.cells #[.pointer (some ⟨b, 3, none⟩)] 181)).block j hj
          have k1 : w3.heap[x.heap.size]? = some (.stringIter s (n + 1)) := by
            rw [hgrow.block x.heap.size (by simp; omega) (by
              cases hv : u5.ownBlock with
              | none => simp
              | some k => have := HB.out k hv; simp; omega)]
            rw [← HO.out.2.1]
            exact ba _ hzx
          have k2 : Below x.heap.size x w3 := HO.out.2.2.trans ⟨hgrow.os, hgrow.tape, hgrow.output, by have := hgrow.size; simp at this; omega, fun j hj => by
            rw [hgrow.block j (by simp; omega) (by
              cases hv : u5.ownBlock with
              | none => simp
              | some k => have := HB.out k hv; simp; omega)]
            exact ba _ (by omega)⟩
          have k3 : w3.ownsRow (x.heap.size + 1) 181 1 v' (n + 1) (PL s b (n + 1)) := by rw [HN'.out]; exact hown'
          have K : Hid (w3.heap[x.heap.size]? = some (.stringIter s (n + 1)) ∧ w3.ownsRow (x.heap.size + 1) 181 1 v' (n + 1) (PL s b (n + 1)) ∧ Below x.heap.size x w3) := ⟨k1, k3, k2⟩
          have KM : Hid (itPos w3 x.heap.size = n + 1) := itPos_at k1
          clear k1 k2 k3 hown' hgrow hat hx HO ba
          go_wp2
          go_roundw
          case rel => exact ⟨n + 1, by omega, K.out⟩
          case measure => rw [KM.out, HM.out]; omega
    · obtain ⟨h1, h2, h3⟩ := HR.out
      obtain rfl : n = s.size := by omega
      have n0 : ∀ ty, (Instr.next (.pointer (some ⟨x.heap.size, 0, none⟩)) true ty).run Tryz.prog wr = .ok (.tuple #[.bool false]) wr := fun ty => next_end_at wr x.heap.size s s.size ty h1 hlt
      clear h1 h2 h3
      go_wp2
      go_ret
      exact ⟨_, rfl, HR.out.2.1, HR.out.2.2⟩
end Go.Proofs.YtlkebkajdlgebaaGreat

/-
  The contract of the program's restIsZero: what letters do not name is 0.
-/
namespace Go.Proofs.YtlkebkajdlgebaaGreat
open Go.RowKit
set_option linter.unusedVariables false
set_option linter.unusedSimpArgs false

/-- a number behind n letters: 0, if its letter was among them -/
def zF (s : ByteArray) (n : Nat) (c : UInt8) (v : Int) : Int := if c ∈ s.data.toList.take n then 0 else v
theorem zF_zero (s : ByteArray) (c : UInt8) (v : Int) : zF s 0 c v = v := by simp [zF]
theorem zF_succ (s : ByteArray) (n : Nat) (h : n < s.size) (c : UInt8) (v : Int) : zF s (n + 1) c v = if (s[n]'h) = c then 0 else zF s n c v := by
  unfold zF
  rw [List.take_succ_eq_append_getElem (by simpa using h)]
  by_cases e : (s[n]'h) = c
  · rw [if_pos e, if_pos]
    rw [List.mem_append]; right; rw [← e]; simp; rfl
  · rw [if_neg e]
    have : (c ∈ s.data.toList.take n ++ [s.data.toList[n]'(by simpa using h)]) ↔ c ∈ s.data.toList.take n := by
      rw [List.mem_append]
      constructor
      · rintro (k | k)
        · exact k
        · exact absurd (List.mem_singleton.1 k).symm e
      · exact .inl
    simp only [this]
def restF (s : ByteArray) (a b c : Int) : Bool := (zF s s.size 65 a == 0) && (zF s s.size 66 b == 0) && (zF s s.size 67 c == 0)

theorem retB {a b : Bool} (h : a = b) : Ending.returned (.bool a) = .returned (.bool b) := by rw [h]

/-- a block of four numbers -/
structure I4w (x : World) (m : Nat) (k a b c : Int) : Prop where
  lt : m < x.heap.size
  c0 : x.cell? ⟨m, 0, none⟩ = some (.int .i64 k)
  c1 : x.cell? ⟨m, 1, none⟩ = some (.int .i64 a)
  c2 : x.cell? ⟨m, 2, none⟩ = some (.int .i64 b)
  c3 : x.cell? ⟨m, 3, none⟩ = some (.int .i64 c)
  f1 : x.frozen? ⟨m, 1, none⟩ = false
  f2 : x.frozen? ⟨m, 2, none⟩ = false
  f3 : x.frozen? ⟨m, 3, none⟩ = false
theorem I4w.later {x y : World} {m : Nat} {k a b c : Int} (h : I4w x m k a b c) (hb : Below x.heap.size x y) : I4w y m k a b c :=
  ⟨Nat.lt_of_lt_of_le h.lt hb.size, (hb.cell (p := ⟨m, 0, none⟩) h.lt).trans h.c0, (hb.cell (p := ⟨m, 1, none⟩) h.lt).trans h.c1, (hb.cell (p := ⟨m, 2, none⟩) h.lt).trans h.c2, (hb.cell (p := ⟨m, 3, none⟩) h.lt).trans h.c3, (hb.frozen (p := ⟨m, 1, none⟩) h.lt).trans h.f1, (hb.frozen (p := ⟨m, 2, none⟩) h.lt).trans h.f2, (hb.frozen (p := ⟨m, 3, none⟩) h.lt).trans h.f3⟩
theorem I4w.set1 {x : World} {m : Nat} {k a b c v : Int} (h : I4w x m k a b c) : I4w (x.setCell ⟨m, 1, none⟩ (.int .i64 v)) m k v b c := by
  obtain ⟨n, c0, c1, c2, c3, f1, f2, f3⟩ := h
  exact ⟨by simpa using n, by simp [go_sem, *], by simp [go_sem, *], by simp [go_sem, *], by simp [go_sem, *], by simp [go_sem, *], by simp [go_sem, *], by simp [go_sem, *]⟩
theorem I4w.set2 {x : World} {m : Nat} {k a b c v : Int} (h : I4w x m k a b c) : I4w (x.setCell ⟨m, 2, none⟩ (.int .i64 v)) m k a v c := by
  obtain ⟨n, c0, c1, c2, c3, f1, f2, f3⟩ := h
  exact ⟨by simpa using n, by simp [go_sem, *], by simp [go_sem, *], by simp [go_sem, *], by simp [go_sem, *], by simp [go_sem, *], by simp [go_sem, *], by simp [go_sem, *]⟩
theorem I4w.set3 {x : World} {m : Nat} {k a b c v : Int} (h : I4w x m k a b c) : I4w (x.setCell ⟨m, 3, none⟩ (.int .i64 v)) m k a b v := by
  obtain ⟨n, c0, c1, c2, c3, f1, f2, f3⟩ := h
  exact ⟨by simpa using n, by simp [go_sem, *], by simp [go_sem, *], by simp [go_sem, *], by simp [go_sem, *], by simp [go_sem, *], by simp [go_sem, *], by simp [go_sem, *]⟩

/-- the row of pointers -/
def Row (x : World) (g b : Nat) (s : ByteArray) : Prop := g < x.heap.size ∧ ∀ (j : Nat) (h : j < s.size), x.cell? ⟨g, j, none⟩ = some (.pointer (some ⟨b, (s[j]'h).toNat - 64, none⟩))
theorem Row.off {x : World} {g b m o : Nat} {s : ByteArray} {v : Value} (h : Row x g b s) (hne : g ≠ m) : Row (x.setCell ⟨m, o, none⟩ v) g b s :=
  ⟨by simpa using h.1, fun j hj => by have := h.2 j hj; have h2 : m ≠ g := Ne.symm hne; simp [go_sem, hne, h2, this]⟩

set_option maxRecDepth 100000 in
set_option maxHeartbeats 4000000 in
theorem restIsZero_any (k a b c : Int) (s : ByteArray) (x : World) (hs : ∀ (j : Nat) (h : j < s.size), (s[j]'h) = 65 ∨ (s[j]'h) = 66 ∨ (s[j]'h) = 67) (hz : s.size ≤ 3) (hz1 : 1 ≤ s.size) :
    Calls Tryz.prog 80 #[.agg #[.int .i64 k, .int .i64 a, .int .i64 b, .int .i64 c], .string s] x fun e y => e = .returned (.bool (restF s a b c)) ∧ Below x.heap.size x y := by
  have HS : Hid (∀ (j : Nat) (h : j < s.size), (s[j]'h) = 65 ∨ (s[j]'h) = 66 ∨ (s[j]'h) = 67) := hs
  have HZ : Hid (s.size ≤ 3) := hz
  have hx0 : I4w (x.alloc (.cells #[.int .i64 k, .int .i64 a, .int .i64 b, .int .i64 c] 104)) x.heap.size k a b c := ⟨by go_size, by simp [go_sem], by simp [go_sem], by simp [go_sem], by simp [go_sem], by simp [go_sem], by simp [go_sem], by simp [go_sem]⟩
  have hb0 : Below x.heap.size x (x.alloc (.cells #[.int .i64 k, .int .i64 a, .int .i64 b, .int .i64 c] 104)) := by go_grown
  have H0 : Hid (I4w (x.alloc (.cells #[.int .i64 k, .int .i64 a, .int .i64 b, .int .i64 c] 104)) x.heap.size k a b c ∧ Below x.heap.size x (x.alloc (.cells #[.int .i64 k, .int .i64 a, .int .i64 b, .int .i64 c] 104))) := ⟨hx0, hb0⟩
  clear hs hz hx0 hb0
  go_enter Tryz.func80, Tryz.ntmps80
  go_wp2_with fail
  refine (numbersOf_any x.heap.size s _ HS.out HZ.out).mono ?_
  rintro e y ⟨v, rfl, hown, hb⟩
  have hI := H0.out.1.later hb
  have hB := H0.out.2.trans (hb.mono (by go_size))
  obtain ⟨g, cap, rfl, hg1⟩ : ∃ g cap, v = .slice (some ⟨g, 0, none⟩) s.size cap ∧ x.heap.size + 1 < g + 1 := by
    rcases hown.2 with ⟨h', hn⟩ | ⟨g, cap, cur, h', hbb, _⟩
    · omega
    · exact ⟨g, cap, h', by simp at hbb; omega⟩
  have hR : Row y g x.heap.size s := ⟨(World.ownsRow.lt hown g rfl).2, fun j hj => by
    rw [World.ownsRow.cellAt hown j (by omega)]
    unfold PL
    simp [hj]
    rfl⟩
  have hgm : g ≠ x.heap.size := by omega
  clear hb hown H0
  have HR0 : Hid (Row y g x.heap.size s) := hR
  have hn3 : (s.size : Int) ≤ 3 := by have := HZ.out; omega
  clear hR
  go_wp2_with fail
  go_loopw [10] (fun s10 z => ∃ n : Nat, n ≤ s.size ∧ s10 = .int .i64 n ∧ I4w z x.heap.size k (zF s n 65 a) (zF s n 66 b) (zF s n 67 c) ∧ Hid (Row z g x.heap.size s) ∧ Below x.heap.size x z) (fun s10 _ => s.size - (intOf s10).toNat)
  case atStart => exact ⟨0, Nat.zero_le _, rfl, by rw [zF_zero, zF_zero, zF_zero]; exact hI, HR0.out, hB⟩
  case round =>
    clear hI hB HR0
    obtain ⟨n, hn, rfl, hI, HR, hB⟩ := hrel
    by_cases hlt : n < s.size
    · have hltI : (n : Int) < (s.size : Int) := by omega
      have q0 := HR.out.2 n hlt
      have qg := HR.out.1
      have ZA := zF_succ s n hlt 65 a
      have ZB := zF_succ s n hlt 66 b
      have ZC := zF_succ s n hlt 67 c
      have c3 := HS.out n hlt
      rcases c3 with e | e | e
      · rw [e] at q0 ZA ZB ZC
        have HZ4 : Hid (zF s (n + 1) 65 a = 0 ∧ zF s (n + 1) 66 b = zF s n 66 b ∧ zF s (n + 1) 67 c = zF s n 67 c) := ⟨by rw [ZA]; rfl, by rw [ZB]; rfl, by rw [ZC]; rfl⟩
        have q1 : wr.cell? ⟨g, n, none⟩ = some (.pointer (some ⟨x.heap.size, 1, none⟩)) := q0
        clear q0 ZA ZB ZC e
        have hI' := hI
        obtain ⟨nI, d0, d1, d2, d3, f1, f2, f3⟩ := hI'
        go_wp2_with fail
        go_roundw
        case rel => exact ⟨n + 1, by omega, by go_num, by rw [HZ4.out.1, HZ4.out.2.1, HZ4.out.2.2]; exact hI.set1, HR.out.off hgm, hB.setCell (Nat.le_refl _) _⟩
        case measure => simp [intOf]; omega
      · rw [e] at q0 ZA ZB ZC
        have HZ4 : Hid (zF s (n + 1) 65 a = zF s n 65 a ∧ zF s (n + 1) 66 b = 0 ∧ zF s (n + 1) 67 c = zF s n 67 c) := ⟨by rw [ZA]; rfl, by rw [ZB]; rfl, by rw [ZC]; rfl⟩
        have q1 : wr.cell? ⟨g, n, none⟩ = some (.pointer (some ⟨x.heap.size, 2, none⟩)) := q0
        clear q0 ZA ZB ZC e
        have hI' := hI
        obtain ⟨nI, d0, d1, d2, d3, f1, f2, f3⟩ := hI'
        go_wp2_with fail
        go_roundw
        case rel => exact ⟨n + 1, by omega, by go_num, by rw [HZ4.out.1, HZ4.out.2.1, HZ4.out.2.2]; exact hI.set2, HR.out.off hgm, hB.setCell (Nat.le_refl _) _⟩
        case measure => simp [intOf]; omega
      · rw [e] at q0 ZA ZB ZC
        have HZ4 : Hid (zF s (n + 1) 65 a = zF s n 65 a ∧ zF s (n + 1) 66 b = zF s n 66 b ∧ zF s (n + 1) 67 c = 0) := ⟨by rw [ZA]; rfl, by rw [ZB]; rfl, by rw [ZC]; rfl⟩
        have q1 : wr.cell? ⟨g, n, none⟩ = some (.pointer (some ⟨x.heap.size, 3, none⟩)) := q0
        clear q0 ZA ZB ZC e
        have hI' := hI
        obtain ⟨nI, d0, d1, d2, d3, f1, f2, f3⟩ := hI'
        go_wp2_with fail
        go_roundw
        case rel => exact ⟨n + 1, by omega, by go_num, by rw [HZ4.out.1, HZ4.out.2.1, HZ4.out.2.2]; exact hI.set3, HR.out.off hgm, hB.setCell (Nat.le_refl _) _⟩
        case measure => simp [intOf]; omega
    · obtain rfl : n = s.size := by omega
      have HF : Hid (restF s a b c = ((zF s s.size 65 a == 0) && (zF s s.size 66 b == 0) && (zF s s.size 67 c == 0))) := rfl
      generalize zF s s.size 65 a = p at hI HF
      generalize zF s s.size 66 b = q at hI HF
      generalize zF s s.size 67 c = r at hI HF
      obtain ⟨nI, d0, d1, d2, d3, f1, f2, f3⟩ := hI
      clear HR
      go_wp2_with fail
      all_goals
        go_ret
        exact ⟨retB (by rw [HF.out]; simp [*]), by assumption⟩
end Go.Proofs.YtlkebkajdlgebaaGreat
