/- The specification's FieldOk on strings that were drawn. -/
import Derived.Test.YtmladgiiagkgeaaDoorAlgF
namespace Go.Proofs.YtmladgiiagkgeaaDoor
open Go.RowKit Go.My Go.Lib
set_option linter.unusedVariables false

end Go.Proofs.YtmladgiiagkgeaaDoor
