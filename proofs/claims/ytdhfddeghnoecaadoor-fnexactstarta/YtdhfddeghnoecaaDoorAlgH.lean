/- The field's nought, opposites. -/
import Derived.Test.YtdhfddeghnoecaaDoorAlgG
namespace Go.Proofs.YtdhfddeghnoecaaDoor
open Go.RowKit Go.My Go.Lib
set_option linter.unusedVariables false

theorem zeroS_eq : str (List.replicate 32 0) = str (leB 0 32) := by rw [show leB 0 32 = List.replicate 32 0 by decide +kernel]
theorem zeroS_ok : okS (str (List.replicate 32 0)) := by rw [zeroS_eq]; exact leS_ok 0 (by decide)
theorem zeroS_n : nS (str (List.replicate 32 0)) = 0 := by rw [zeroS_eq]; exact leS_n 0 (by decide)
theorem opp_mul (p x y : Nat) (hx : x ≤ p) (hy : y ≤ p) : (p - x) * (p - y) % p = x * y % p := by
  obtain ⟨x', hx'⟩ : ∃ x', p = x + x' := ⟨p - x, by omega⟩
  obtain ⟨y', hy'⟩ : ∃ y', p = y + y' := ⟨p - y, by omega⟩
  have e1 : p - x = x' := by omega
  have e2 : p - y = y' := by omega
  rw [e1, e2]
  have h1 : x' * y' + p * y = x * y + p * x' := by
    have a1 : p * y = x * y + x' * y := by rw [hx', Nat.add_mul]
    have a2 : p * x' = y * x' + y' * x' := by rw [hy', Nat.add_mul]
    rw [a1, a2, Nat.mul_comm y x', Nat.mul_comm y' x']
    omega
  have h2 := congrArg (· % p) h1
  simp only [Nat.add_mul_mod_self_left] at h2
  exact h2
theorem sub_opp {Z a b : ByteArray} (oz : okS Z) (nz : nS Z = 0) (oa : okS a) (ob : okS b) : opS fD Z (opS fD a b) = opS fD b a := by
  refine opS_eq oz (opS_ok fD_lt oa ob) ob oa ?_
  rw [opS_n fD_lt oa ob, nz]
  have h1 : nS a < P25n := oa.2
  have h2 : nS b < P25n := ob.2
  unfold fD P25n at *
  omega
theorem sub_self' {Z a : ByteArray} (oz : okS Z) (nz : nS Z = 0) (oa : okS a) : opS fD a a = Z := by
  refine okS_eq (opS_ok fD_lt oa oa) oz ?_
  rw [opS_n fD_lt oa oa, nz]
  have h1 : nS a < P25n := oa.2
  unfold fD P25n at *
  omega
theorem mul_opp {Z a b : ByteArray} (oz : okS Z) (nz : nS Z = 0) (oa : okS a) (ob : okS b) : opS fM (opS fD Z a) (opS fD Z b) = opS fM a b := by
  refine opS_eq (opS_ok fD_lt oz oa) (opS_ok fD_lt oz ob) oa ob ?_
  rw [opS_n fD_lt oz oa, opS_n fD_lt oz ob, nz]
  unfold fM fD
  rw [Nat.zero_add, Nat.zero_add, Nat.mul_mod_mod, Nat.mod_mul_mod]
  exact opp_mul _ _ _ (Nat.le_of_lt oa.2) (Nat.le_of_lt ob.2)

end Go.Proofs.YtdhfddeghnoecaaDoor
