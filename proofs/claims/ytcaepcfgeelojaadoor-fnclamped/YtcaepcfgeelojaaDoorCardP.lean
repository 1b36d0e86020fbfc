/- What the listed table of the prime's words gives the walks; a world that holds it. -/
import Derived.Test.YtcaepcfgeelojaaDoorRows
import Derived.Test.YtcaepcfgeelojaaDoorCards
import Derived.Test.YtcaepcfgeelojaaDoorTie
import Derived.WalkKit
import Derived.ProofKit
import Derived.OpenShut
import Derived.ShutString
import Derived.ChangeOld
import Derived.ChangeVars
import Derived.OpenVars
import Derived.Below
import Derived.Deep.DeepHandedRow
import Derived.Lib.LaidTab
import Derived.Test.YtcaepcfgeelojaaDoorFld1
namespace Go.Proofs.YtcaepcfgeelojaaDoor
open Go.RowKit Go.My Go.Lib
set_option linter.unusedVariables false

def pL : List Int := [18446744073709551597, 18446744073709551615, 18446744073709551615, 9223372036854775807]
theorem gP : Tryd.prog.globalNamed "loop.example/g00702/impl.prime" = some 0 := by kernel_rfl
theorem gPType : (Tryd.prog.globals[0]?).map (·.type) = some 33 := by kernel_rfl
theorem cellsPT : Tryd.prog.cellsOf 33 = 4 := by kernel_rfl
theorem cellsPE : Tryd.prog.cellsOf 32 = 1 := by kernel_rfl
def laidP : List (String × DataW Unit) := [("loop.example/g00702/impl.prime", Rows.laid_loop_example_g00702_impl_prime)]
theorem tabIsP {W : World} (h : laidMetH Tryd.prog laidP W) : Lib.TabIs Tryd.prog W "loop.example/g00702/impl.prime" .u64 pL :=
  Lib.tabIs_of_head (rest := []) gP gPType Tryd.underlying33 Tryd.underlying32 cellsPE cellsPT h
theorem pL_eq (i : Nat) (h : i < 4) : pL.getD i 0 = (lw P25n i : Int) := by
  rcases (by omega : i = 0 ∨ i = 1 ∨ i = 2 ∨ i = 3) with rfl | rfl | rfl | rfl <;> decide +kernel
theorem tab_ofP {W : World} (h : laidMetH Tryd.prog laidP W) : TabP W := by
  have hc : ∀ i, i < 4 → W.cell? ⟨0, i, none⟩ = some (.int .u64 (lw P25n i : Int)) := fun i hi => by rw [← pL_eq i hi]; exact (tabIsP h).cell gP i hi
  exact ⟨World.block_lt_of_cell? W _ (hc 0 (by decide)), hc⟩
noncomputable def laidWorldP (os : Os) : World :=
  { World.holding Tryd.prog os ⟨#[], #[], []⟩ with heap := (World.holding Tryd.prog os ⟨#[], #[], []⟩).heap.modify 0 fun
      | .cells _ t frozen => .cells (pL.map fun z => Value.int .u64 z).toArray t frozen
      | o => o }
theorem laid_metP (os : Os) (args : Array Value) : laidMetH Tryd.prog laidP ((laidWorldP os).forCall (fun _ _ => 0) ⟨#[], args, []⟩).memory :=
  laidMet_of_run' 8 (by kernel_rfl) (by kernel_rfl)

end Go.Proofs.YtcaepcfgeelojaaDoor
