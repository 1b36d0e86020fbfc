/- The field's inverse on strings. -/
import Derived.Test.YtdhfddeghnoecaaDoorAlgH
import Derived.Test.YtdhfddeghnoecaaDoorPrime
namespace Go.Proofs.YtdhfddeghnoecaaDoor
open Go.RowKit Go.My Go.Lib
set_option linter.unusedVariables false

def invS (a : ByteArray) : ByteArray := str (invV a.data.toList)
def oneS : ByteArray := str (leB 1 32)
theorem oneS_ok : okS oneS := leS_ok 1 (by decide)
theorem oneS_n : nS oneS = 1 := leS_n 1 (by decide)
theorem P25_eq : P25n = P25 := by decide
theorem E25_succ : E25 + 1 = P25 - 1 := by decide
theorem fermatE (x : Nat) (h : x % P25n ≠ 0) : x ^ E25 * x % P25n = 1 := by
  rw [← Nat.pow_succ, Nat.succ_eq_add_one, E25_succ, P25_eq]
  rw [P25_eq] at h
  exact fermat1 P25 x primP h
theorem invS_pos {a : ByteArray} (h : okS a) : invS a = str (leB (nS a ^ E25 % P25n) 32) := by
  unfold invS invV nS
  rw [if_pos (show fldOk a.data.toList from h)]
theorem invS_neg {a : ByteArray} (h : ¬ okS a) : ∃ E : ByteArray, invS a = E ∧ E.toList.isEmpty = true := by
  refine ⟨str [], ?_, by rw [isE]; rfl⟩
  unfold invS invV
  rw [if_neg (show ¬ fldOk a.data.toList from h)]
theorem modPp_lt (x : Nat) : x % P25n < P25n := Nat.mod_lt _ (by decide)
theorem invS_ok {a : ByteArray} (h : okS a) : okS (invS a) := by rw [invS_pos h]; exact leS_ok _ (modPp_lt _)
theorem invS_n {a : ByteArray} (h : okS a) : nS (invS a) = nS a ^ E25 % P25n := by rw [invS_pos h]; exact leS_n _ (modPp_lt _)
theorem powE_zero : (0 : Nat) ^ E25 % P25n = 0 := by
  rw [Nat.zero_pow (by decide : 0 < E25)]
  decide
theorem inv_zero {a Z : ByteArray} (oz : okS Z) (nz : nS Z = 0) (h : a = Z) : invS a = Z := by
  subst h
  refine okS_eq (invS_ok oz) oz ?_
  rw [invS_n oz, nz, powE_zero]
theorem mul_inv' {a Z : ByteArray} (oz : okS Z) (nz : nS Z = 0) (oa : okS a) (h : a ≠ Z) : opS fM a (invS a) = oneS := by
  have hn : nS a ≠ 0 := fun e => h (okS_eq oa oz (e.trans nz.symm))
  refine okS_eq (opS_ok fM_lt oa (invS_ok oa)) oneS_ok ?_
  rw [opS_n fM_lt oa (invS_ok oa), invS_n oa, oneS_n]
  unfold fM
  rw [Nat.mul_mod_mod, Nat.mul_comm]
  refine fermatE _ ?_
  rw [Nat.mod_eq_of_lt (show nS a < P25n from oa.2)]
  exact hn
theorem inv_twice (x v : Nat) (hx : x < P25n) (h : v * x % P25n = 1) (hE : v ^ E25 * v % P25n = 1) : v ^ E25 % P25n = x := by
  generalize v ^ E25 = u at *
  have h1 : u * v * x % P25n = x := by rw [Nat.mul_mod, hE, Nat.one_mul, Nat.mod_mod, Nat.mod_eq_of_lt hx]
  have h2 : u * v * x % P25n = u % P25n := by rw [Nat.mul_assoc, Nat.mul_mod, h, Nat.mul_one, Nat.mod_mod]
  rw [← h2, h1]
theorem inv_inv' {a Z : ByteArray} (oz : okS Z) (nz : nS Z = 0) (oa : okS a) (h : a ≠ Z) : invS (invS a) = a := by
  have hn : nS a ≠ 0 := fun e => h (okS_eq oa oz (e.trans nz.symm))
  refine okS_eq (invS_ok (invS_ok oa)) oa ?_
  have hm := congrArg nS (mul_inv' oz nz oa h)
  rw [opS_n fM_lt oa (invS_ok oa), oneS_n] at hm
  unfold fM at hm
  rw [Nat.mul_comm] at hm
  rw [invS_n (invS_ok oa)]
  refine inv_twice _ _ oa.2 hm (fermatE _ ?_)
  intro e
  rw [Nat.mul_mod, e, Nat.zero_mul] at hm
  exact absurd hm (by decide)
theorem mul_one' {a : ByteArray} (oa : okS a) : opS fM a oneS = a := by
  refine okS_eq (opS_ok fM_lt oa oneS_ok) oa ?_
  rw [opS_n fM_lt oa oneS_ok, oneS_n]
  unfold fM
  rw [Nat.mul_one, Nat.mod_eq_of_lt (show nS a < P25n from oa.2)]
theorem add_zero' {a Z : ByteArray} (oz : okS Z) (nz : nS Z = 0) (oa : okS a) : opS fA a Z = a := by
  refine okS_eq (opS_ok fA_lt oa oz) oa ?_
  rw [opS_n fA_lt oa oz, nz]
  unfold fA
  rw [Nat.add_zero, Nat.mod_eq_of_lt (show nS a < P25n from oa.2)]
end Go.Proofs.YtdhfddeghnoecaaDoor
