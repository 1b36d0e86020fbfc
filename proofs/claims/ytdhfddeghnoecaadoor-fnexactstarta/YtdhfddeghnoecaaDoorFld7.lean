/- The contracts of the field's functions of the program. -/
import Derived.Test.YtdhfddeghnoecaaDoorFld6
namespace Go.Proofs.YtdhfddeghnoecaaDoor
open Go.RowKit Go.My Go.Lib
set_option linter.unusedVariables false

def fldOk (l : List UInt8) : Prop := l.length = 32 ∧ leN l < P25n
instance (l : List UInt8) : Decidable (fldOk l) := inferInstanceAs (Decidable (_ ∧ _))
def rdA (s : ByteArray) : Array Value := if s.size = 32 then fldA (leN s.data.toList) else Z4
theorem rdA_size (s : ByteArray) : (rdA s).size = 4 := by
  unfold rdA
  split
  · exact rwA_size _ _ _
  · rfl
theorem rdA_sz (s : ByteArray) : (Tryd.prog.info? 60).map (·.size) = some (rdA s).size := by rw [rdA_size]; exact size_f4
theorem rdA_z (s : ByteArray) : Z4.size = (rdA s).size := by rw [rdA_size]; rfl
theorem rdA_one (s : ByteArray) : (rdA s).all (·.oneCell') = true := by
  unfold rdA
  split
  · exact oneN _
  · rw [Z4_eq]; exact rwA_one _ _ _
theorem rdA_ok (s : ByteArray) (h : fldOk s.data.toList) : rdA s = fldA (leN s.data.toList) := if_pos (by rw [← len_data]; exact h.1)
def opV (f : Nat → Nat → Nat) (a b : List UInt8) : List UInt8 := if fldOk a ∧ fldOk b then leB (f (leN a) (leN b)) 32 else []

def invV (a : List UInt8) : List UInt8 := if fldOk a then leB (leN a ^ E25 % P25n) 32 else []
end Go.Proofs.YtdhfddeghnoecaaDoor
