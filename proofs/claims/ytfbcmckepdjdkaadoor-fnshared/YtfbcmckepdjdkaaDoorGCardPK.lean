/- What two listed tables (round words, then the prime's words) give the walks; a world that holds both. -/
import Derived.Test.YtfbcmckepdjdkaaDoorRows
import Derived.Test.YtfbcmckepdjdkaaDoorCards
import Derived.Test.YtfbcmckepdjdkaaDoorTie
import Derived.WalkKit
import Derived.ProofKit
import Derived.OpenShut
import Derived.ShutString
import Derived.ChangeOld
import Derived.ChangeVars
import Derived.OpenVars
import Derived.Below
import Derived.Deep.DeepHandedRow
import Derived.Lib.LaidTab
import Derived.Test.YtfbcmckepdjdkaaDoorGCardK
import Derived.Test.YtfbcmckepdjdkaaDoorGM2
namespace Go.Proofs.YtfbcmckepdjdkaaDoor
open Go.RowKit Go.My Go.Lib
set_option linter.unusedVariables false

def laidPK : List (String × DataW Unit) := [("loop.example/g00702/impl.roundWords", Rows.laid_loop_example_g00702_impl_roundWords), ("loop.example/g00702/impl.prime", Rows.laid_loop_example_g00702_impl_prime)]
theorem tabIsPKk {W : World} (h : laidMetH Tryd.prog laidPK W) : Lib.TabIs Tryd.prog W "loop.example/g00702/impl.roundWords" .u32 kL :=
  Lib.tabIs_of_head (rest := [("loop.example/g00702/impl.prime", Rows.laid_loop_example_g00702_impl_prime)]) gK gKType Tryd.underlying209 Tryd.underlying156 cellsKE cellsKT h
theorem laidMet_tail {P : Program} {W : World} {x : String × DataW Unit} {rest : List (String × DataW Unit)} (h : laidMet P (x :: rest) W) : laidMet P rest W := by
  obtain ⟨ps, ⟨g', t', cs, fuel, p, q, hg', ht', hvar, hd, hr, rfl⟩, hn, hc⟩ := h
  exact ⟨q, hr, (List.nodup_append.1 hn).2.1, fun b off hm => hc b off (List.mem_append.2 (.inr hm))⟩
theorem tabIsPKp {W : World} (h : laidMetH Tryd.prog laidPK W) : Lib.TabIs Tryd.prog W "loop.example/g00702/impl.prime" .u64 pL :=
  tabIsP (laidMet_tail (x := ("loop.example/g00702/impl.roundWords", Rows.laid_loop_example_g00702_impl_roundWords)) h)
def TabPK (w : World) : Prop := TabP w ∧ TabK w
theorem TabPK.below {w w' : World} (h : TabPK w) (hb : Below w.heap.size w w') : TabPK w' := ⟨h.1.below hb h.1.1, h.2.below hb h.2.1⟩
theorem tab_ofPK {W : World} (h : laidMetH Tryd.prog laidPK W) : TabPK W := by
  have hc : ∀ i, i < 64 → W.cell? ⟨2, i, none⟩ = some (.int .u32 (kW i)) := fun i hi => (tabIsPKk h).cell gK i hi
  exact ⟨tab_ofP (laidMet_tail (x := ("loop.example/g00702/impl.roundWords", Rows.laid_loop_example_g00702_impl_roundWords)) h), World.block_lt_of_cell? W _ (hc 0 (by decide)), hc⟩
def fillPK (k : IntKind) (zs : List Int) : Obj → Obj
  | .cells _ t frozen => .cells (zs.map fun z => Value.int k z).toArray t frozen
  | o => o
noncomputable def laidWorldPK (os : Os) : World :=
  { World.holding Tryd.prog os ⟨#[], #[], []⟩ with heap := ((World.holding Tryd.prog os ⟨#[], #[], []⟩).heap.modify 0 (fillPK .u64 pL)).modify 2 (fillPK .u32 kL) }
theorem laid_metPK (os : Os) (args : Array Value) : laidMetH Tryd.prog laidPK ((laidWorldPK os).forCall (fun _ _ => 0) ⟨#[], args, []⟩).memory :=
  laidMet_of_run' 8 (by kernel_rfl) (by kernel_rfl)

end Go.Proofs.YtfbcmckepdjdkaaDoor
