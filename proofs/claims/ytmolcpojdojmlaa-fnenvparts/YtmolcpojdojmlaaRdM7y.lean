/- The reading of a whole envelope, where it answers. -/
import Derived.Test.YtmolcpojdojmlaaRdM7
namespace Go.Proofs.Ytmolcpojdojmlaa
open Go.RowKit Go.My Go.Lib
set_option linter.unusedVariables false

end Go.Proofs.Ytmolcpojdojmlaa
