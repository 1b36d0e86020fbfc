/- The specification's FieldOk on strings that were drawn. -/
import Derived.Test.YtcaepcfgeelojaaDoorAlgF
namespace Go.Proofs.YtcaepcfgeelojaaDoor
open Go.RowKit Go.My Go.Lib
set_option linter.unusedVariables false

theorem okQ (a : ByteArray) (w : World) (ha : a.size ≤ 40) (p : Bool) (h : decide (okS a) = p) : Calls Tryd.prog 31 #[.string a] w fun e w' => e = .returned (.bool p) ∧ Below w.heap.size w w' := h ▸ fieldOk_spec a w (by omega)

end Go.Proofs.YtcaepcfgeelojaaDoor
