/- The reader's envelope. -/
import Derived.Test.YtmolcpojdojmlaaRdM5
namespace Go.Proofs.Ytmolcpojdojmlaa
open Go.RowKit Go.My Go.Lib
set_option linter.unusedVariables false

end Go.Proofs.Ytmolcpojdojmlaa
