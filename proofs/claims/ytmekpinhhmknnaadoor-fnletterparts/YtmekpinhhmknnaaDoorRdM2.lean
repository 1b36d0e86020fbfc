/- The reader's message. -/
import Derived.Test.YtmekpinhhmknnaaDoorRdM1
namespace Go.Proofs.YtmekpinhhmknnaaDoor
open Go.RowKit Go.My Go.Lib
set_option linter.unusedVariables false

abbrev zeroM : Array Value := #[.string ⟨#[]⟩, .int .i64 0, .int .i64 0, .string ⟨#[]⟩]

theorem num2_lt (r : ByteArray) (i : Nat) (h : i + 2 ≤ r.size) : numOf (cut r i (i + 2)).data.toList < 65536 := by
  have := numOf_lt (cut r i (i + 2)).data.toList
  rw [len_data, cut_size r i (i + 2) h] at this
  have e : i + 2 - i = 2 := by omega
  rw [e] at this
  omega

end Go.Proofs.YtmekpinhhmknnaaDoor
