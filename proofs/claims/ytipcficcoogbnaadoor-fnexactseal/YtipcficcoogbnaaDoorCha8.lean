/- The specification's Block. -/
import Derived.Test.YtipcficcoogbnaaDoorCha7
import Derived.Test.YtipcficcoogbnaaDoorKeys
namespace Go.Proofs.YtipcficcoogbnaaDoor
open Go.RowKit Go.My Go.Lib
set_option linter.unusedVariables false
end Go.Proofs.YtipcficcoogbnaaDoor
