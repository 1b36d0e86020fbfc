/- The specification's FieldOk on strings that were drawn. -/
import Derived.Test.YtiieoiledeegfaaDoorAlgF
namespace Go.Proofs.YtiieoiledeegfaaDoor
open Go.RowKit Go.My Go.Lib
set_option linter.unusedVariables false

theorem okQ (a : ByteArray) (w : World) (ha : a.size ≤ 40) (p : Bool) (h : decide (okS a) = p) : Calls Tryd.prog 20 #[.string a] w fun e w' => e = .returned (.bool p) ∧ Below w.heap.size w w' := h ▸ fieldOk_spec a w (by omega)

end Go.Proofs.YtiieoiledeegfaaDoor
