/- The contracts of the big-endian encodings: bigEndian of the program, l1Be of the specification. -/
import Derived.Test.YtkglgficmealnaaRows
import Derived.Test.YtkglgficmealnaaMath1
import Derived.WalkKit
import Derived.ProofKit
import Derived.Deep.RegionHeld3
import Derived.Deep.AppendLies
import Derived.StillTailTactics
import Derived.WalkSpells
import Derived.WalkLawsBesides
namespace Go.Proofs.Ytkglgficmealnaa
open Go.RowKit Go.My
set_option linter.unusedVariables false
set_option maxRecDepth 100000

theorem info_u8b : (Try.prog.info? 5).map (fun i => (i.zero, i.size, i.bytes)) = some (some (.int .u8 0), 1, 1) := by kernel_rfl

end Go.Proofs.Ytkglgficmealnaa
