/- What the listed table of round words gives the walks; a world that holds it. -/
import Derived.Test.YtgjnoleejbkddaaDoorRows
import Derived.Test.YtgjnoleejbkddaaDoorCards
import Derived.Test.YtgjnoleejbkddaaDoorTie
import Derived.WalkKit
import Derived.ProofKit
import Derived.OpenShut
import Derived.ShutString
import Derived.ChangeOld
import Derived.ChangeVars
import Derived.OpenVars
import Derived.Below
import Derived.Deep.DeepHandedRow
import Derived.Lib.LaidTab
import Derived.Test.YtgjnoleejbkddaaDoorGSha3
namespace Go.Proofs.YtgjnoleejbkddaaDoor
open Go.RowKit Go.My Go.Lib
set_option linter.unusedVariables false

theorem gK : Tryd.prog.globalNamed "loop.example/g00702/impl.roundWords" = some 2 := by kernel_rfl
theorem gKType : (Tryd.prog.globals[2]?).map (·.type) = some 78 := by kernel_rfl
theorem cellsKT : Tryd.prog.cellsOf 78 = 64 := by kernel_rfl
theorem cellsKE : Tryd.prog.cellsOf 64 = 1 := by kernel_rfl
def laidK : List (String × DataW Unit) := [("loop.example/g00702/impl.roundWords", Rows.laid_loop_example_g00702_impl_roundWords)]
theorem tabIsK {W : World} (h : laidMetH Tryd.prog laidK W) : Lib.TabIs Tryd.prog W "loop.example/g00702/impl.roundWords" .u32 kL :=
  Lib.tabIs_of_head (rest := []) gK gKType Tryd.underlying78 Tryd.underlying64 cellsKE cellsKT h
theorem tab_ofK {W : World} (h : laidMetH Tryd.prog laidK W) : TabK W := by
  have hc : ∀ i, i < 64 → W.cell? ⟨2, i, none⟩ = some (.int .u32 (kW i)) := fun i hi => (tabIsK h).cell gK i hi
  exact ⟨World.block_lt_of_cell? W _ (hc 0 (by decide)), hc⟩
noncomputable def laidWorldK (os : Os) : World :=
  { World.holding Tryd.prog os ⟨#[], #[], []⟩ with heap := (World.holding Tryd.prog os ⟨#[], #[], []⟩).heap.modify 2 fun
      | .cells _ t frozen => .cells (kL.map fun z => Value.int .u32 z).toArray t frozen
      | o => o }
theorem laid_metK (os : Os) (args : Array Value) : laidMetH Tryd.prog laidK ((laidWorldK os).forCall (fun _ _ => 0) ⟨#[], args, []⟩).memory :=
  laidMet_of_run' 8 (by kernel_rfl) (by kernel_rfl)
theorem ownK : ownKnob Tryd.prog.godebug = none := by kernel_rfl
theorem laidOutK : laidOutB Tryd.prog = true := by kernel_rfl

end Go.Proofs.YtgjnoleejbkddaaDoor
