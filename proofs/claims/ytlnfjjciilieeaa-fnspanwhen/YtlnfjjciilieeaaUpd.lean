/-
  A region 'hull = SpanJoin(hull, SpanOf(n))': its operations in whatever order; the store comes last.
-/
import Derived.Test.YtlnfjjciilieeaaInv2
namespace Go.Proofs.Ytlnfjjciilieeaa
open Go.RowKit
set_option linter.unusedVariables false

def UI (mk : Value → Value → Value → Value → Act) (w0 : World) (V0 V1 V2 V3 : Value) (D : World → Prop) (listed : Array Bool) (a : Act) (x : World) : Prop :=
  ∃ (b0 b1 b2 b3 b4 : Bool) (s0 s1 s2 s3 : Value), listed = #[b0, b1, b2, b3, b4] ∧ a = mk s0 s1 s2 s3 ∧ (b4 = false → Below w0.heap.size w0 x) ∧ (b4 = true → D x) ∧ (b4 = true → b0 = true ∧ b1 = true ∧ b2 = true ∧ b3 = true) ∧ Sl b0 s0 V0 ∧ Sl b1 s1 V1 ∧ Sl b2 s2 V2 ∧ Sl b3 s3 V3
/-- a block is overwritten by a span -/
def SetSp (w0 : World) (m : Nat) (a : Bool) (l u : Int) (x : World) : Prop := ∃ x', Below w0.heap.size w0 x' ∧ x = ((x'.setCell ⟨m, 0, none⟩ (.bool a)).setCell ⟨m, 1, none⟩ (.int .i64 l)).setCell ⟨m, 2, none⟩ (.int .i64 u)
theorem SetSp.off {w0 x : World} {m n : Nat} {a b : Bool} {l u k v : Int} (h : SetSp w0 m a l u x) (hs : Sp3 w0 n b k v) (hne : n ≠ m) : Sp3 x n b k v := by
  obtain ⟨x', hb, rfl⟩ := h
  exact (((hs.later hb).off hne).off hne).off hne
theorem SetSp.at_ {w0 x : World} {m : Nat} {a b : Bool} {l u k v : Int} (h : SetSp w0 m a l u x) (hs : Sp3 w0 m b k v) : Sp3 x m a l u := by
  obtain ⟨x', hb, rfl⟩ := h
  exact (hs.later hb).set
theorem SetSp.below {w w0 x : World} {m : Nat} {a : Bool} {l u : Int} (h : SetSp w0 m a l u x) (hw : Below w.heap.size w w0) (hm : w.heap.size ≤ m) : Below w.heap.size w x := by
  obtain ⟨x', hb, rfl⟩ := h
  exact below_set3 (hw.trans (hb.mono hw.size)) hm
end Go.Proofs.Ytlnfjjciilieeaa
