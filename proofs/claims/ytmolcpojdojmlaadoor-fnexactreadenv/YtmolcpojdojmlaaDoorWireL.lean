/- The laws' own copies of heads, Inits and messages, and their counts of bytes. -/
import Derived.Test.YtmolcpojdojmlaaDoorWire3
namespace Go.Proofs.YtmolcpojdojmlaaDoor
open Go.RowKit Go.My Go.Lib
set_option linter.unusedVariables false

end Go.Proofs.YtmolcpojdojmlaaDoor
