/- The contract of the program's BytesNum; of the specification's l1At at two bytes. -/
import Derived.Test.YtmekpinhhmknnaaDoorMath1
import Derived.Test.YtmekpinhhmknnaaDoorBe
import Derived.Test.YtmekpinhhmknnaaDoorNumA
import Derived.Lib.Hide
import Derived.BigQuiet
import Derived.Deep.QuietTactic
namespace Go.Proofs.YtmekpinhhmknnaaDoor
open Go.RowKit Go.My
set_option linter.unusedVariables false

theorem two_of (s : ByteArray) (k : Nat) (h : k + 2 ≤ s.size) : (s.extract k (k + 2)).data.toList = [s[k]'(by omega), s[k + 1]'(by omega)] := by
  apply List.ext_getElem
  · simp; omega
  · intro i h1 h2
    have : i = 0 ∨ i = 1 := by simp at h2; omega
    rcases this with rfl | rfl <;> simp <;> rfl
theorem numOf_two (x y : UInt8) : numOf [x, y] = x.toNat * 256 + y.toNat := by simp [numOf]

end Go.Proofs.YtmekpinhhmknnaaDoor
