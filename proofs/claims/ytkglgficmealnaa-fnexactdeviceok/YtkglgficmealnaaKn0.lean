/- A key or nothing: pure. Nothing of the program is named. -/
import Derived.WalkKit
import Derived.ProofKit
namespace Go.Proofs.Ytkglgficmealnaa
set_option linter.unusedVariables false

def noneOr (s : ByteArray) : Bool := decide (s.size = 0 ∨ s.size = 32)
theorem emptyS {s : ByteArray} (h : s.size = 0) : s = ByteArray.mk #[] := by
  obtain ⟨⟨l⟩⟩ := s
  have : l.length = 0 := h
  rw [List.eq_nil_of_length_eq_zero this]
theorem fullS {s : ByteArray} (h : ¬ s.size = 0) : s.toList.isEmpty = false := by
  rw [ByteArray.toList_eq]
  obtain ⟨⟨l⟩⟩ := s
  cases l with
  | nil => exact absurd rfl h
  | cons _ _ => rfl

end Go.Proofs.Ytkglgficmealnaa
