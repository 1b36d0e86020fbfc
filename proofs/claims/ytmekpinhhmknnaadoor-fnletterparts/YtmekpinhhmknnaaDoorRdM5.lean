/- The reader's flag, initial keys and envelope. -/
import Derived.Test.YtmekpinhhmknnaaDoorRdM3
import Derived.Test.YtmekpinhhmknnaaDoorWireE
namespace Go.Proofs.YtmekpinhhmknnaaDoor
open Go.RowKit Go.My Go.Lib
set_option linter.unusedVariables false

theorem num1_lt (r : ByteArray) (i : Nat) (h : i + 1 ≤ r.size) : numOf (cut r i (i + 1)).data.toList < 256 := by
  have := numOf_lt (cut r i (i + 1)).data.toList
  rw [len_data, cut_size r i (i + 1) h] at this
  have e : i + 1 - i = 1 := by omega
  rw [e] at this
  omega

abbrev zeroI : Array Value := #[.string ⟨#[]⟩, .string ⟨#[]⟩, .int .i64 0]

end Go.Proofs.YtmekpinhhmknnaaDoor
