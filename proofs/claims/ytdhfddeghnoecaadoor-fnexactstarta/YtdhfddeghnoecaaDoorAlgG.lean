/- The specification's FieldOk on strings that were drawn. -/
import Derived.Test.YtdhfddeghnoecaaDoorAlgF
namespace Go.Proofs.YtdhfddeghnoecaaDoor
open Go.RowKit Go.My Go.Lib
set_option linter.unusedVariables false

end Go.Proofs.YtdhfddeghnoecaaDoor
