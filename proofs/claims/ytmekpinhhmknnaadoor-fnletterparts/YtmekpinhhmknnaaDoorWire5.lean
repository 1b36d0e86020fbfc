/- The bytes of an envelope, by the program and by the specification. -/
import Derived.Test.YtmekpinhhmknnaaDoorWire4
namespace Go.Proofs.YtmekpinhhmknnaaDoor
open Go.RowKit Go.My Go.Lib
set_option linter.unusedVariables false

def hasB (z : Bool) (p q : ByteArray) (o : Int) : ByteArray := if z = true then ⟨#[1]⟩ ++ initB p q o else ⟨#[0]⟩
def envB (f t : Int) (z : Bool) (p q : ByteArray) (o : Int) (u : ByteArray) (a b : Int) (s : ByteArray) : ByteArray := nb f 1 ++ nb t 1 ++ hasB z p q o ++ msgB u a b s
def envV (f t : Int) (z : Bool) (p q : ByteArray) (o : Int) (u : ByteArray) (a b : Int) (s : ByteArray) : ByteArray := if EnvP f t z p q o u a b s then envB f t z p q o u a b s else ⟨#[]⟩
theorem envV_yes {f t : Int} {z : Bool} {p q : ByteArray} {o : Int} {u : ByteArray} {a b : Int} {s : ByteArray} (h : EnvP f t z p q o u a b s) : envV f t z p q o u a b s = envB f t z p q o u a b s := if_pos h
theorem envV_no {f t : Int} {z : Bool} {p q : ByteArray} {o : Int} {u : ByteArray} {a b : Int} {s : ByteArray} (h : ¬ EnvP f t z p q o u a b s) : envV f t z p q o u a b s = ⟨#[]⟩ := if_neg h
theorem initB_size {p q : ByteArray} {o : Int} (h : InitP p q o) : (initB p q o).size ≤ 71 := by
  unfold initB
  rw [cat_size, cat_size]
  have n1 := nb_size o 2 (by omega)
  have := h.1
  have := h.2.1
  omega
theorem msgB_size {p : ByteArray} {a b : Int} {s : ByteArray} (h : MsgP p a b s) : (msgB p a b s).size ≤ 485 := by
  unfold msgB
  rw [cat_size, cat_size]
  have n1 := nb_size (s.size : Int) 2 (by omega)
  have n2 := headB_size h.1
  have := h.2
  omega
theorem sz1 (x : UInt8) : (ByteArray.mk #[x]).size = 1 := rfl

end Go.Proofs.YtmekpinhhmknnaaDoor
