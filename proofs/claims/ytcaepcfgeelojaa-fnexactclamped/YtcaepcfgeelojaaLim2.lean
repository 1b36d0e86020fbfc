/- The contracts of the specification's l3Add and l3Sub. -/
import Derived.Test.YtcaepcfgeelojaaLim1
import Derived.Test.YtcaepcfgeelojaaFld3
import Derived.Test.YtcaepcfgeelojaaMathM
namespace Go.Proofs.Ytcaepcfgeelojaa
open Go.RowKit Go.My Go.Lib
set_option linter.unusedVariables false

end Go.Proofs.Ytcaepcfgeelojaa
