/- The bytes of heads, Inits and messages, by the program and by the specification. -/
import Derived.Test.YtkglgficmealnaaWire1
import Derived.Test.YtkglgficmealnaaMath4
namespace Go.Proofs.Ytkglgficmealnaa
open Go.RowKit Go.My Go.Lib
set_option linter.unusedVariables false

theorem wf_mid (n : Int) (h0 : 0 ≤ n) (h1 : n ≤ 1000000) : (Lit.int .i64 n).wf = true := by
  simp [Lit.wf, IntKind.min, IntKind.max, IntKind.signed, IntKind.bits]
  omega
def nb (n k : Int) : ByteArray := str (numB n k)
/-- The cells of a head (at a message's first three as well). -/
def HeadAt (k : Nat) (p : ByteArray) (a b : Int) (W : World) : Prop :=
  k < W.heap.size ∧ W.cell? ⟨k, 0, none⟩ = some (.string p) ∧ W.cell? ⟨k, 1, none⟩ = some (.int .i64 a) ∧ W.cell? ⟨k, 2, none⟩ = some (.int .i64 b)
theorem HeadAt.below {k : Nat} {p : ByteArray} {a b : Int} {V W : World} (hb : Below V.heap.size V W) (h : HeadAt k p a b V) : HeadAt k p a b W :=
  ⟨Nat.lt_of_lt_of_le h.1 hb.size, (hb.cell (p := ⟨k, 0, none⟩) h.1).trans h.2.1, (hb.cell (p := ⟨k, 1, none⟩) h.1).trans h.2.2.1, (hb.cell (p := ⟨k, 2, none⟩) h.1).trans h.2.2.2⟩

theorem below_next {B : Nat} {w V W : World} (hb : Below V.heap.size V W) (h : Below B w V) (hs : B ≤ V.heap.size) : Below B w W := h.trans (hb.mono hs)
theorem nb_size (n k : Int) (hk : 0 ≤ k ∧ k ≤ 7) : (nb n k).size ≤ 7 := by
  unfold nb
  rw [str_size]
  rcases numB_cases n k with h | ⟨h, _⟩
  · rw [h]; exact Nat.zero_le _
  · rw [h]; omega
theorem cat_ok {x y : ByteArray} (h : x.size + y.size ≤ 1000000) : ¬ 9223372036854775807 < x.size + y.size := by omega
theorem cat_size (x y : ByteArray) : (x ++ y).size = x.size + y.size := ByteArray.size_append
def headB (p : ByteArray) (a b : Int) : ByteArray := p ++ nb a 2 ++ nb b 2
def headV (p : ByteArray) (a b : Int) : ByteArray := if HeadP p a b then headB p a b else ⟨#[]⟩
theorem headV_yes {p : ByteArray} {a b : Int} (h : HeadP p a b) : headV p a b = headB p a b := if_pos h
theorem headV_no {p : ByteArray} {a b : Int} (h : ¬ HeadP p a b) : headV p a b = ⟨#[]⟩ := if_neg h

end Go.Proofs.Ytkglgficmealnaa
