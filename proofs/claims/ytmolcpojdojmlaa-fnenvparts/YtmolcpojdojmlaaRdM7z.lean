/- What the program's ReadEnv answers. -/
import Derived.Test.YtmolcpojdojmlaaRdM7y
import Derived.Test.YtmolcpojdojmlaaRdM7l
import Derived.Test.YtmolcpojdojmlaaRdM7n
namespace Go.Proofs.Ytmolcpojdojmlaa
open Go.RowKit Go.My Go.Lib
set_option linter.unusedVariables false

/-! ### ReadEnv: what is read -/
def fE (s : ByteArray) : Nat := numOf (cut s 0 1).data.toList
def tE (s : ByteArray) : Nat := numOf (cut s 1 2).data.toList
def nE (s : ByteArray) : Nat := numOf (cut s 2 3).data.toList
/-- The fields of an envelope as the bytes s tell them, its message's bytes beginning at k. -/
def EnvK (s : ByteArray) (z : Bool) (p q : ByteArray) (o : Int) (m : ByteArray) : Prop :=
  RdMP m ∧ EnvP (fE s) (tE s) z p q o (cut m 0 32) (numOf (cut m 32 34).data.toList : Nat) (numOf (cut m 34 36).data.toList : Nat) (cut m 38 m.size)
instance (s : ByteArray) (z : Bool) (p q : ByteArray) (o : Int) (m : ByteArray) : Decidable (EnvK s z p q o m) := inferInstanceAs (Decidable (_ ∧ _))
def envKA (s : ByteArray) (z : Bool) (p q : ByteArray) (o : Int) (m : ByteArray) : Array Value :=
  envA (fE s) (tE s) z p q o (cut m 0 32) (numOf (cut m 32 34).data.toList : Nat) (numOf (cut m 34 36).data.toList : Nat) (cut m 38 m.size)
def RdEF (s : ByteArray) : Prop := 3 ≤ s.size ∧ nE s = 0 ∧ EnvK s false ⟨#[]⟩ ⟨#[]⟩ 0 (cut s 3 s.size)
def RdET (s : ByteArray) : Prop := 69 ≤ s.size ∧ nE s = 1 ∧ EnvK s true (cut s 3 35) (cut s 35 67) (numOf (cut s 67 69).data.toList : Nat) (cut s 69 s.size)
instance (s : ByteArray) : Decidable (RdEF s) := inferInstanceAs (Decidable (_ ∧ _))
instance (s : ByteArray) : Decidable (RdET s) := inferInstanceAs (Decidable (_ ∧ _))
def RdEP (s : ByteArray) : Prop := RdEF s ∨ RdET s
instance (s : ByteArray) : Decidable (RdEP s) := inferInstanceAs (Decidable (_ ∨ _))
def rdEA (s : ByteArray) : Array Value :=
  if RdEF s then envKA s false ⟨#[]⟩ ⟨#[]⟩ 0 (cut s 3 s.size)
  else if RdET s then envKA s true (cut s 3 35) (cut s 35 67) (numOf (cut s 67 69).data.toList : Nat) (cut s 69 s.size) else zeroE
theorem rdEA_F {s : ByteArray} (h : RdEF s) : rdEA s = envKA s false ⟨#[]⟩ ⟨#[]⟩ 0 (cut s 3 s.size) := if_pos h
theorem rdEA_T {s : ByteArray} (h : RdET s) : rdEA s = envKA s true (cut s 3 35) (cut s 35 67) (numOf (cut s 67 69).data.toList : Nat) (cut s 69 s.size) := by
  unfold rdEA
  rw [if_neg (fun c : RdEF s => by have := c.2.1; have := h.2.1; omega), if_pos h]
theorem rdEA_no {s : ByteArray} (h : ¬ RdEP s) : rdEA s = zeroE := by
  unfold rdEA
  rw [if_neg (fun c => h (.inl c)), if_neg (fun c => h (.inr c))]
theorem rdEA_ten (s : ByteArray) : ∃ f t z p q o u a b x, rdEA s = envA f t z p q o u a b x := by
  by_cases h : RdEF s
  · exact ⟨_, _, _, _, _, _, _, _, _, _, rdEA_F h⟩
  by_cases h2 : RdET s
  · exact ⟨_, _, _, _, _, _, _, _, _, _, rdEA_T h2⟩
  · exact ⟨_, _, _, _, _, _, _, _, _, _, rdEA_no (fun c => c.elim h h2)⟩

end Go.Proofs.Ytmolcpojdojmlaa
