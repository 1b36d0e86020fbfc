/- The deferred recover, and the reading of a whole message. -/
import Derived.Test.YtmekpinhhmknnaaDoorRdM2
import Derived.Defers
import Derived.Recover
import Derived.Laws.Pointers
namespace Go.Proofs.YtmekpinhhmknnaaDoor
open Go.RowKit Go.My Go.Lib
set_option linter.unusedVariables false

theorem isE' (a : ByteArray) : a.toList.isEmpty = decide (a.size = 0) := by
  rw [ByteArray.toList_eq, ← len_data]
  cases a.data.toList <;> simp
/-! ### ReadMsg -/
def RdMP (s : ByteArray) : Prop := 38 ≤ s.size ∧ numOf (cut s 36 38).data.toList = s.size - 38 ∧ MsgP (cut s 0 32) (numOf (cut s 32 34).data.toList : Nat) (numOf (cut s 34 36).data.toList : Nat) (cut s 38 s.size)
instance (s : ByteArray) : Decidable (RdMP s) := inferInstanceAs (Decidable (_ ∧ _))
def rdMA (s : ByteArray) : Array Value := if RdMP s then msgA (cut s 0 32) (numOf (cut s 32 34).data.toList : Nat) (numOf (cut s 34 36).data.toList : Nat) (cut s 38 s.size) else zeroM
theorem rdMA_yes {s : ByteArray} (h : RdMP s) : rdMA s = msgA (cut s 0 32) (numOf (cut s 32 34).data.toList : Nat) (numOf (cut s 34 36).data.toList : Nat) (cut s 38 s.size) := if_pos h
theorem rdMA_no {s : ByteArray} (h : ¬ RdMP s) : rdMA s = zeroM := if_neg h

theorem rdMA_four (s : ByteArray) : ∃ p a b x, rdMA s = msgA p a b x := by
  by_cases h : RdMP s
  · exact ⟨_, _, _, _, rdMA_yes h⟩
  · exact ⟨_, _, _, _, rdMA_no h⟩

end Go.Proofs.YtmekpinhhmknnaaDoor
