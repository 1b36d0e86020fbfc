/- The parts of an envelope's bytes. -/
import Derived.Test.YtmolcpojdojmlaaRdM9
namespace Go.Proofs.Ytmolcpojdojmlaa
open Go.RowKit Go.My Go.Lib
set_option linter.unusedVariables false

def endB (z : Bool) (p q : ByteArray) (o : Int) (u : ByteArray) (a b : Int) (x : ByteArray) : ByteArray := if z = true then initB p q o ++ msgB u a b x else msgB u a b x
theorem env_parts {f t : Int} {z : Bool} {p q : ByteArray} {o : Int} {u : ByteArray} {a b : Int} {x : ByteArray} (h : EnvP f t z p q o u a b x) :
    (envB f t z p q o u a b x).size = 3 + (endB z p q o u a b x).size ∧ (envB f t z p q o u a b x).extract 3 (envB f t z p q o u a b x).size = endB z p q o u a b x := by
  obtain ⟨⟨f0, f1⟩, ⟨t0, t1⟩, hne, hm, hz⟩ := id h
  have sf := nb_size1 (n := f) (by omega) (by omega)
  have st := nb_size1 (n := t) (by omega) (by omega)
  have s2 : (nb f 1 ++ nb t 1).size = 2 := by rw [ByteArray.size_append]; omega
  have key : ∀ (y : UInt8) (E : ByteArray), envB f t z p q o u a b x = nb f 1 ++ nb t 1 ++ ByteArray.mk #[y] ++ E → (envB f t z p q o u a b x).size = 3 + E.size ∧ (envB f t z p q o u a b x).extract 3 (envB f t z p q o u a b x).size = E := fun y E e => by
    have s3 : (nb f 1 ++ nb t 1 ++ ByteArray.mk #[y]).size = 3 := by rw [ByteArray.size_append]; have : (ByteArray.mk #[y]).size = 1 := rfl; omega
    rw [e, ByteArray.size_append, s3]
    exact ⟨rfl, ByteArray.extract_append_eq_right s3.symm (by rw [s3])⟩
  cases z with
  | false => exact key 0 (msgB u a b x) rfl
  | true =>
    refine key 1 (initB p q o ++ msgB u a b x) ?_
    show nb f 1 ++ nb t 1 ++ (ByteArray.mk #[1] ++ initB p q o) ++ msgB u a b x = _
    simp only [ByteArray.append_assoc]

end Go.Proofs.Ytmolcpojdojmlaa
