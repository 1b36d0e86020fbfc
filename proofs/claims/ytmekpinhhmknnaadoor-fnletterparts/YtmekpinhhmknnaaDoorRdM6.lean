/- The reader's envelope. -/
import Derived.Test.YtmekpinhhmknnaaDoorRdM5
namespace Go.Proofs.YtmekpinhhmknnaaDoor
open Go.RowKit Go.My Go.Lib
set_option linter.unusedVariables false

end Go.Proofs.YtmekpinhhmknnaaDoor
