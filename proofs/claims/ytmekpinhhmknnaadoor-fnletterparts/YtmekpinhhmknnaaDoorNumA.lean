/- The contract of the program's NumBytes. -/
import Derived.Test.YtmekpinhhmknnaaDoorRows
import Derived.Test.YtmekpinhhmknnaaDoorMath1
import Derived.Test.YtmekpinhhmknnaaDoorSmall
import Derived.Test.YtmekpinhhmknnaaDoorBe
import Derived.Lib.Hide
import Derived.BigQuiet
import Derived.Deep.QuietTactic
namespace Go.Proofs.YtmekpinhhmknnaaDoor
open Go.RowKit Go.My
set_option linter.unusedVariables false
set_option maxRecDepth 100000

end Go.Proofs.YtmekpinhhmknnaaDoor
