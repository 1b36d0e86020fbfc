/- The contract of the program's NumBytes. -/
import Derived.Test.YtkglgficmealnaaRows
import Derived.Test.YtkglgficmealnaaMath1
import Derived.Test.YtkglgficmealnaaSmall
import Derived.Test.YtkglgficmealnaaBe
import Derived.Lib.Hide
import Derived.BigQuiet
import Derived.Deep.QuietTactic
namespace Go.Proofs.Ytkglgficmealnaa
open Go.RowKit Go.My
set_option linter.unusedVariables false
set_option maxRecDepth 100000

end Go.Proofs.Ytkglgficmealnaa
