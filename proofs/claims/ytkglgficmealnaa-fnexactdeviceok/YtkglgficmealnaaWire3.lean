/- The bytes of Inits and messages, by the program and by the specification. -/
import Derived.Test.YtkglgficmealnaaWire2
namespace Go.Proofs.Ytkglgficmealnaa
open Go.RowKit Go.My Go.Lib
set_option linter.unusedVariables false

def InitAt (k : Nat) (p q : ByteArray) (a : Int) (W : World) : Prop :=
  k < W.heap.size ∧ W.cell? ⟨k, 0, none⟩ = some (.string p) ∧ W.cell? ⟨k, 1, none⟩ = some (.string q) ∧ W.cell? ⟨k, 2, none⟩ = some (.int .i64 a)
theorem InitAt.below {k : Nat} {p q : ByteArray} {a : Int} {V W : World} (hb : Below V.heap.size V W) (h : InitAt k p q a V) : InitAt k p q a W :=
  ⟨Nat.lt_of_lt_of_le h.1 hb.size, (hb.cell (p := ⟨k, 0, none⟩) h.1).trans h.2.1, (hb.cell (p := ⟨k, 1, none⟩) h.1).trans h.2.2.1, (hb.cell (p := ⟨k, 2, none⟩) h.1).trans h.2.2.2⟩
def MsgAt (k : Nat) (p : ByteArray) (a b : Int) (s : ByteArray) (W : World) : Prop :=
  k < W.heap.size ∧ W.cell? ⟨k, 0, none⟩ = some (.string p) ∧ W.cell? ⟨k, 1, none⟩ = some (.int .i64 a) ∧ W.cell? ⟨k, 2, none⟩ = some (.int .i64 b) ∧ W.cell? ⟨k, 3, none⟩ = some (.string s)
theorem MsgAt.below {k : Nat} {p : ByteArray} {a b : Int} {s : ByteArray} {V W : World} (hb : Below V.heap.size V W) (h : MsgAt k p a b s V) : MsgAt k p a b s W :=
  ⟨Nat.lt_of_lt_of_le h.1 hb.size, (hb.cell (p := ⟨k, 0, none⟩) h.1).trans h.2.1, (hb.cell (p := ⟨k, 1, none⟩) h.1).trans h.2.2.1, (hb.cell (p := ⟨k, 2, none⟩) h.1).trans h.2.2.2.1, (hb.cell (p := ⟨k, 3, none⟩) h.1).trans h.2.2.2.2⟩
def initB (p q : ByteArray) (a : Int) : ByteArray := p ++ q ++ nb a 2
def initV (p q : ByteArray) (a : Int) : ByteArray := if InitP p q a then initB p q a else ⟨#[]⟩
theorem initV_yes {p q : ByteArray} {a : Int} (h : InitP p q a) : initV p q a = initB p q a := if_pos h
theorem initV_no {p q : ByteArray} {a : Int} (h : ¬ InitP p q a) : initV p q a = ⟨#[]⟩ := if_neg h
def msgB (p : ByteArray) (a b : Int) (s : ByteArray) : ByteArray := headB p a b ++ nb s.size 2 ++ s
def msgV (p : ByteArray) (a b : Int) (s : ByteArray) : ByteArray := if MsgP p a b s then msgB p a b s else ⟨#[]⟩
theorem msgV_yes {p : ByteArray} {a b : Int} {s : ByteArray} (h : MsgP p a b s) : msgV p a b s = msgB p a b s := if_pos h
theorem msgV_no {p : ByteArray} {a b : Int} {s : ByteArray} (h : ¬ MsgP p a b s) : msgV p a b s = ⟨#[]⟩ := if_neg h
theorem headB_size {p : ByteArray} {a b : Int} (h : HeadP p a b) : (headB p a b).size ≤ 46 := by
  unfold headB
  rw [cat_size, cat_size]
  have n1 := nb_size a 2 (by omega)
  have n2 := nb_size b 2 (by omega)
  have := h.1
  omega

end Go.Proofs.Ytkglgficmealnaa
