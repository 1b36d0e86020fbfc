/- Clamped under the law's bounds. -/
import Derived.Test.YtcaepcfgeelojaaClm1
namespace Go.Proofs.Ytcaepcfgeelojaa
open Go.RowKit Go.My Go.Lib
set_option linter.unusedVariables false

theorem clampS20 (k : ByteArray) (w : World) (h : k.size ≤ 1048576) : Calls Try.prog 4 #[.string k] w fun e w' => e = .returned (.string (clampV k)) ∧ Below w.heap.size w w' := clamp_s k w (by omega)
theorem clampI20 (k : ByteArray) (w : World) (h : k.size ≤ 1048576) : Calls Try.prog 5 #[.string k] w fun e w' => e = .returned (.string (clampV k)) ∧ Below w.heap.size w w' := clamp_i k w (by omega)

end Go.Proofs.Ytcaepcfgeelojaa
