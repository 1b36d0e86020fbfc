/- The specification's Block. -/
import Derived.Test.YtgjnoleejbkddaaDoorGCha7
import Derived.Test.YtgjnoleejbkddaaDoorGM1
namespace Go.Proofs.YtgjnoleejbkddaaDoor
open Go.RowKit Go.My Go.Lib
set_option linter.unusedVariables false
end Go.Proofs.YtgjnoleejbkddaaDoor
