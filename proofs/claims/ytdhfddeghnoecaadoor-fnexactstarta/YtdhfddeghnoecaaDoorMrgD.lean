/- What the listed table of round words gives the walks; a world that holds it. -/
import Derived.Test.YtdhfddeghnoecaaDoorRows
import Derived.Test.YtdhfddeghnoecaaDoorCards
import Derived.Test.YtdhfddeghnoecaaDoorTie
import Derived.WalkKit
import Derived.ProofKit
import Derived.OpenShut
import Derived.ShutString
import Derived.ChangeOld
import Derived.ChangeVars
import Derived.OpenVars
import Derived.Below
import Derived.Deep.DeepHandedRow
import Derived.Lib.LaidTab
import Derived.Test.YtdhfddeghnoecaaDoorMrgB
import Derived.Test.YtdhfddeghnoecaaDoorFld1
namespace Go.Proofs.YtdhfddeghnoecaaDoor
open Go.RowKit Go.My Go.Lib
set_option linter.unusedVariables false

theorem gK : Tryd.prog.globalNamed "loop.example/g00702/impl.roundWords" = some 2 := by kernel_rfl
theorem gKType : (Tryd.prog.globals[2]?).map (·.type) = some 120 := by kernel_rfl
theorem cellsKT : Tryd.prog.cellsOf 120 = 64 := by kernel_rfl
theorem cellsKE : Tryd.prog.cellsOf 119 = 1 := by kernel_rfl
def laidK : List (String × DataW Unit) := [("loop.example/g00702/impl.roundWords", Rows.laid_loop_example_g00702_impl_roundWords)]
theorem tabIsK {W : World} (h : laidMetH Tryd.prog laidK W) : Lib.TabIs Tryd.prog W "loop.example/g00702/impl.roundWords" .u32 kL :=
  Lib.tabIs_of_head (rest := []) gK gKType Tryd.underlying120 Tryd.underlying119 cellsKE cellsKT h
theorem tab_ofK {W : World} (h : laidMetH Tryd.prog laidK W) : TabK W := by
  have hc : ∀ i, i < 64 → W.cell? ⟨2, i, none⟩ = some (.int .u32 (kW i)) := fun i hi => (tabIsK h).cell gK i hi
  exact ⟨World.block_lt_of_cell? W _ (hc 0 (by decide)), hc⟩
noncomputable def laidWorldK (os : Os) : World :=
  { World.holding Tryd.prog os ⟨#[], #[], []⟩ with heap := (World.holding Tryd.prog os ⟨#[], #[], []⟩).heap.modify 2 fun
      | .cells _ t frozen => .cells (kL.map fun z => Value.int .u32 z).toArray t frozen
      | o => o }
theorem laid_metK (os : Os) (args : Array Value) : laidMetH Tryd.prog laidK ((laidWorldK os).forCall (fun _ _ => 0) ⟨#[], args, []⟩).memory :=
  laidMet_of_run' 8 (by kernel_rfl) (by kernel_rfl)
theorem ownK : ownKnob Tryd.prog.godebug = none := by kernel_rfl
theorem laidOutK : laidOutB Tryd.prog = true := by kernel_rfl

end Go.Proofs.YtdhfddeghnoecaaDoor

/- What the listed table of the prime's words gives the walks; a world that holds it. -/
namespace Go.Proofs.YtdhfddeghnoecaaDoor
open Go.RowKit Go.My Go.Lib
set_option linter.unusedVariables false

def pL : List Int := [18446744073709551597, 18446744073709551615, 18446744073709551615, 9223372036854775807]
theorem gP : Tryd.prog.globalNamed "loop.example/g00702/impl.prime" = some 0 := by kernel_rfl
theorem gPType : (Tryd.prog.globals[0]?).map (·.type) = some 59 := by kernel_rfl
theorem cellsPT : Tryd.prog.cellsOf 59 = 4 := by kernel_rfl
theorem cellsPE : Tryd.prog.cellsOf 58 = 1 := by kernel_rfl
def laidP : List (String × DataW Unit) := [("loop.example/g00702/impl.prime", Rows.laid_loop_example_g00702_impl_prime)]
theorem tabIsP {W : World} (h : laidMetH Tryd.prog laidP W) : Lib.TabIs Tryd.prog W "loop.example/g00702/impl.prime" .u64 pL :=
  Lib.tabIs_of_head (rest := []) gP gPType Tryd.underlying59 Tryd.underlying58 cellsPE cellsPT h
theorem pL_eq (i : Nat) (h : i < 4) : pL.getD i 0 = (lw P25n i : Int) := by
  rcases (by omega : i = 0 ∨ i = 1 ∨ i = 2 ∨ i = 3) with rfl | rfl | rfl | rfl <;> decide +kernel
theorem tab_ofP {W : World} (h : laidMetH Tryd.prog laidP W) : TabP W := by
  have hc : ∀ i, i < 4 → W.cell? ⟨0, i, none⟩ = some (.int .u64 (lw P25n i : Int)) := fun i hi => by rw [← pL_eq i hi]; exact (tabIsP h).cell gP i hi
  exact ⟨World.block_lt_of_cell? W _ (hc 0 (by decide)), hc⟩
noncomputable def laidWorldP (os : Os) : World :=
  { World.holding Tryd.prog os ⟨#[], #[], []⟩ with heap := (World.holding Tryd.prog os ⟨#[], #[], []⟩).heap.modify 0 fun
      | .cells _ t frozen => .cells (pL.map fun z => Value.int .u64 z).toArray t frozen
      | o => o }
theorem laid_metP (os : Os) (args : Array Value) : laidMetH Tryd.prog laidP ((laidWorldP os).forCall (fun _ _ => 0) ⟨#[], args, []⟩).memory :=
  laidMet_of_run' 8 (by kernel_rfl) (by kernel_rfl)

end Go.Proofs.YtdhfddeghnoecaaDoor

/- What two listed tables (round words, then the prime's words) give the walks; a world that holds both. -/
namespace Go.Proofs.YtdhfddeghnoecaaDoor
open Go.RowKit Go.My Go.Lib
set_option linter.unusedVariables false

def laidPK : List (String × DataW Unit) := [("loop.example/g00702/impl.roundWords", Rows.laid_loop_example_g00702_impl_roundWords), ("loop.example/g00702/impl.prime", Rows.laid_loop_example_g00702_impl_prime)]
theorem tabIsPKk {W : World} (h : laidMetH Tryd.prog laidPK W) : Lib.TabIs Tryd.prog W "loop.example/g00702/impl.roundWords" .u32 kL :=
  Lib.tabIs_of_head (rest := [("loop.example/g00702/impl.prime", Rows.laid_loop_example_g00702_impl_prime)]) gK gKType Tryd.underlying120 Tryd.underlying119 cellsKE cellsKT h
theorem laidMet_tail {P : Program} {W : World} {x : String × DataW Unit} {rest : List (String × DataW Unit)} (h : laidMet P (x :: rest) W) : laidMet P rest W := by
  obtain ⟨ps, ⟨g', t', cs, fuel, p, q, hg', ht', hvar, hd, hr, rfl⟩, hn, hc⟩ := h
  exact ⟨q, hr, (List.nodup_append.1 hn).2.1, fun b off hm => hc b off (List.mem_append.2 (.inr hm))⟩
theorem tabIsPKp {W : World} (h : laidMetH Tryd.prog laidPK W) : Lib.TabIs Tryd.prog W "loop.example/g00702/impl.prime" .u64 pL :=
  tabIsP (laidMet_tail (x := ("loop.example/g00702/impl.roundWords", Rows.laid_loop_example_g00702_impl_roundWords)) h)
def TabPK (w : World) : Prop := TabP w ∧ TabK w
theorem TabPK.below {w w' : World} (h : TabPK w) (hb : Below w.heap.size w w') : TabPK w' := ⟨h.1.below hb h.1.1, h.2.below hb h.2.1⟩
theorem tab_ofPK {W : World} (h : laidMetH Tryd.prog laidPK W) : TabPK W := by
  have hc : ∀ i, i < 64 → W.cell? ⟨2, i, none⟩ = some (.int .u32 (kW i)) := fun i hi => (tabIsPKk h).cell gK i hi
  exact ⟨tab_ofP (laidMet_tail (x := ("loop.example/g00702/impl.roundWords", Rows.laid_loop_example_g00702_impl_roundWords)) h), World.block_lt_of_cell? W _ (hc 0 (by decide)), hc⟩
def fillPK (k : IntKind) (zs : List Int) : Obj → Obj
  | .cells _ t frozen => .cells (zs.map fun z => Value.int k z).toArray t frozen
  | o => o
noncomputable def laidWorldPK (os : Os) : World :=
  { World.holding Tryd.prog os ⟨#[], #[], []⟩ with heap := ((World.holding Tryd.prog os ⟨#[], #[], []⟩).heap.modify 0 (fillPK .u64 pL)).modify 2 (fillPK .u32 kL) }
theorem laid_metPK (os : Os) (args : Array Value) : laidMetH Tryd.prog laidPK ((laidWorldPK os).forCall (fun _ _ => 0) ⟨#[], args, []⟩).memory :=
  laidMet_of_run' 8 (by kernel_rfl) (by kernel_rfl)

end Go.Proofs.YtdhfddeghnoecaaDoor
