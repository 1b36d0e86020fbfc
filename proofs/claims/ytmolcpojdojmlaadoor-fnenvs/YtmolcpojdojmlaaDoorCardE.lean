/- What the listed variable of the one error gives the walks; a world that holds it. -/
import Derived.Test.YtmolcpojdojmlaaDoorRows
import Derived.Test.YtmolcpojdojmlaaDoorCards
import Derived.Test.YtmolcpojdojmlaaDoorTie
import Derived.WalkKit
import Derived.ProofKit
import Derived.OpenShut
import Derived.ShutString
import Derived.ChangeOld
import Derived.ChangeVars
import Derived.OpenVars
import Derived.Below
import Derived.Deep.DeepHandedRow
import Derived.Lib.LaidTab
import Derived.Test.YtmolcpojdojmlaaDoorRdM1
import Derived.Stop.LaidErr
import Derived.Stop.ErrReads
namespace Go.Proofs.YtmolcpojdojmlaaDoor
open Go.RowKit Go.My Go.Lib Go.Stop Go.Extern Go.Extern.Stop
set_option linter.unusedVariables false

theorem gE : Tryd.prog.globalNamed "loop.example/g00702/impl.errWire" = some 0 := by kernel_rfl
theorem gEType : (Tryd.prog.globals[0]?).map (·.type) = some 86 := by kernel_rfl
theorem cellsES : Tryd.prog.cellsOf 109 = 1 := by kernel_rfl
theorem cellsE9 : Tryd.prog.cellsOf 9 = 1 := by kernel_rfl
theorem starE : "*" ++ "errors.errorString" = "*errors.errorString" := by decide
theorem rowE (u : TypeId) (h : Tryd.prog.typeName? 3 u = some "*errors.errorString") : u = 93 :=
  typeName_ptr_named (nm := "errors.errorString") (by rw [starE]; kernel_rfl) (by kernel_rfl) (by decide) u (by rw [starE]; exact h)
def laidE : List (String × DataW Unit) := [("loop.example/g00702/impl.errWire", Rows.laid_loop_example_g00702_impl_errWire)]
theorem tab_ofE {W : World} (h : laidMetH Tryd.prog laidE W) : ∃ T v, TabE T v W := by
  have h' : laidMet Tryd.prog laidE W := h
  obtain ⟨a, s, hv, _⟩ := laid_sentinel h' gE gEType Tryd.underlying86 rowE Tryd.underlying93 Tryd.underlying109 rfl rfl Tryd.underlying9 cellsES cellsE9
  have hc : W.cell? ⟨0, 0, none⟩ = some (.iface 93 (.pointer (some a))) := by simpa using World.var?_cell gE hv 0
  exact ⟨_, _, World.block_lt_of_cell? W _ hc, hc⟩
abbrev txtE : ByteArray := { data := #[116, 104, 101, 115, 101, 32, 98, 121, 116, 101, 115, 32, 101, 110, 99, 111, 100, 101, 32, 110, 111, 32, 118, 97, 108, 117, 101] }
noncomputable def lowE : Nat := (World.holding Tryd.prog default ⟨#[], #[], []⟩).heap.size
noncomputable def laidWorldE (os : Os) : World :=
  let w0 := World.holding Tryd.prog os ⟨#[.cells #[.string txtE] 109], #[], []⟩
  { w0 with heap := w0.heap.modify 0 fun
      | .cells _ t frozen => .cells #[.iface 93 (.pointer (some ⟨lowE, 0, none⟩))] t frozen
      | o => o }
theorem laid_metE (os : Os) (args : Array Value) : laidMetH Tryd.prog laidE ((laidWorldE os).forCall (fun _ _ => 0) ⟨#[], args, []⟩).memory :=
  laidMet_of_run' 8 (by kernel_rfl) (by kernel_rfl)

end Go.Proofs.YtmolcpojdojmlaaDoor
