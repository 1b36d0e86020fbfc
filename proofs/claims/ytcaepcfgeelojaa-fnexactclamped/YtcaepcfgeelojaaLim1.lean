/- The contracts of the specification's l3Bits and l3Carry. -/
import Derived.Test.YtcaepcfgeelojaaRows
import Derived.Test.YtcaepcfgeelojaaMathL
import Derived.Test.YtcaepcfgeelojaaMathS
import Derived.WalkKit
import Derived.ProofKit
import Derived.Lib.Hide
import Derived.Deep.QuietTactic
import Derived.BigQuiet
import Derived.Deep.MidRow
import Derived.Deep.RegionHeld3
import Derived.Deep.AppendLies
import Derived.StillTailTactics
import Derived.WalkSpells
import Derived.WalkLawsBesides
namespace Go.Proofs.Ytcaepcfgeelojaa
open Go.RowKit Go.My Go.Lib
set_option linter.unusedVariables false

theorem l10one (f : Nat → Int) : (rwA .i64 10 f).all (·.oneCell') = true := rwA_one _ _ _
theorem l10same (f g : Nat → Int) : (rwA .i64 10 f).size = (rwA .i64 10 g).size := by rw [rwA_size, rwA_size]
abbrev Z10 : Array Value := #[Value.int .i64 0, Value.int .i64 0, Value.int .i64 0, Value.int .i64 0, Value.int .i64 0, Value.int .i64 0, Value.int .i64 0, Value.int .i64 0, Value.int .i64 0, Value.int .i64 0]
theorem Z10_eq : Z10 = rwA .i64 10 (fun _ => 0) := rfl
theorem z10sz (f : Nat → Int) : Z10.size = (rwA .i64 10 f).size := by rw [rwA_size]; rfl

theorem two_set (g g' : Nat → Int) (i j : Nat) (x y : Int) (hi : i < 10) (hj : j < 10) (hij : i ≠ j) (h1 : g' i = x) (h2 : g' j = y) (h3 : ∀ q, q ≠ i → q ≠ j → g' q = g q) :
    ((rwA .i64 10 g).setIfInBounds i (.int .i64 x)).setIfInBounds j (.int .i64 y) = rwA .i64 10 g' := by
  rw [rwA_set .i64 10 g (fun q => if q = i then x else g q) i hi x (if_pos rfl) (fun q _ hq => if_neg hq)]
  exact rwA_set .i64 10 _ g' j hj y h2 (fun q _ hq => by
    show g' q = if q = i then x else g q
    by_cases c : q = i
    · rw [if_pos c, c, h1]
    · rw [if_neg c, h3 q c hq])
end Go.Proofs.Ytcaepcfgeelojaa
