/- The reading of a whole envelope, where bytes are left. -/
import Derived.Test.YtmolcpojdojmlaaRdM7
namespace Go.Proofs.Ytmolcpojdojmlaa
open Go.RowKit Go.My Go.Lib
set_option linter.unusedVariables false

end Go.Proofs.Ytmolcpojdojmlaa
