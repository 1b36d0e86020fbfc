/- The contracts of the small helpers: bounds and digits. -/
import Derived.Test.YtgjnoleejbkddaaDoorRows
import Derived.WalkKit
import Derived.ProofKit
import Derived.Lib.Hide
namespace Go.Proofs.YtgjnoleejbkddaaDoor
open Go.RowKit
set_option linter.unusedVariables false

end Go.Proofs.YtgjnoleejbkddaaDoor
