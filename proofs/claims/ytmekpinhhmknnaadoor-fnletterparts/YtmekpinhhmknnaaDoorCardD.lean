/- What the listed tables of the library give the walks (decimals read one of them); a world that holds them. -/
import Derived.Test.YtmekpinhhmknnaaDoorRows
import Derived.Test.YtmekpinhhmknnaaDoorCards
import Derived.Test.YtmekpinhhmknnaaDoorTie
import Derived.WalkKit
import Derived.ProofKit
import Derived.OpenShut
import Derived.ShutString
import Derived.ChangeOld
import Derived.ChangeVars
import Derived.OpenVars
import Derived.Below
import Derived.Deep.DeepHandedRow
import Derived.Lib.LaidTab
import Derived.Test.YtmekpinhhmknnaaDoorRowA
import Derived.Stop.LaidErr
import Derived.Lib.ItoaNum
import Derived.Lib.ItoaLen
import Derived.LaidEql
namespace Go.Proofs.YtmekpinhhmknnaaDoor
open Go.RowKit Go.My Go.Lib Go.Stop
set_option linter.unusedVariables false

theorem trodVars_threeD {H : Type} {enc : TypeId × Value → H} {P : Program} {w : World} {spare : Nat → Bool} {n0 n1 n2 : String} {gs : List (DataW H)} {ps : List MemPlace} (h : DataW.TrodVars enc P w spare [n0, n1, n2] gs ps) : ∃ d0 d1 d2, gs = [d0, d1, d2] := by
  match gs, h with
  | [], h => simp [DataW.TrodVars] at h
  | [d], h => obtain ⟨_, _, _, _, _, _, _, _, _, _, hs, _⟩ := h; simp [DataW.TrodVars] at hs
  | [d, d1], h => obtain ⟨_, _, _, _, _, _, _, _, _, _, ⟨_, _, _, _, _, _, _, _, _, _, hs, _⟩, _⟩ := h; simp [DataW.TrodVars] at hs
  | [d, d1, d2], h => exact ⟨d, d1, d2, rfl⟩
  | d :: d1 :: d2 :: d3 :: ds, h => obtain ⟨_, _, _, _, _, _, _, _, _, _, ⟨_, _, _, _, _, _, _, _, _, _, ⟨_, _, _, _, _, _, _, _, _, _, hs, _⟩, _⟩, _⟩ := h; simp [DataW.TrodVars] at hs

theorem gD : Tryd.prog.globalNamed "internal/strconv.uint64pow10" = some 3 := by kernel_rfl
theorem gDType : (Tryd.prog.globals[3]?).map (·.type) = some 144 := by kernel_rfl
theorem cellsDT : Tryd.prog.cellsOf 144 = 20 := by kernel_rfl
theorem cellsDE : Tryd.prog.cellsOf 83 = 1 := by kernel_rfl
/-- The table of the powers of ten. -/
def TabD (w : World) : Prop := 3 < w.heap.size ∧ Lib.TabIs Tryd.prog w "internal/strconv.uint64pow10" .u64 Lib.pow10Tab
theorem TabD.below {w w' : World} (h : TabD w) (hb : Below w.heap.size w w') : TabD w' := by
  refine ⟨Nat.lt_of_lt_of_le h.1 hb.size, ?_⟩
  have h2 := h.2
  unfold Lib.TabIs World.var? at h2 ⊢
  rw [gD] at h2 ⊢
  have e := hb.block 3 h.1
  simp only [Option.bind_some] at h2 ⊢
  rw [e]
  exact h2
def laidD : List (String × DataW Unit) := [("math/bits.deBruijn32tab", Rows.laid_math_bits_deBruijn32tab), ("math/bits.deBruijn64tab", Rows.laid_math_bits_deBruijn64tab), ("internal/strconv.uint64pow10", Rows.laid_internal_strconv_uint64pow10)]
theorem powD : (Rows.laid_internal_strconv_uint64pow10 : DataW Unit) = Lib.tabData .u64 Lib.pow10Tab := by kernel_rfl
theorem tab_ofD {W : World} (h : laidMetH Tryd.prog laidD W) : TabD W := by
  have h0 : laidMet Tryd.prog laidD W := h
  have h2 : laidMet Tryd.prog [("internal/strconv.uint64pow10", Rows.laid_internal_strconv_uint64pow10)] W := h0.tail.tail
  rw [powD] at h2
  have ht := Lib.tabIs_of_head (rest := []) gD gDType Tryd.underlying144 Tryd.underlying83 cellsDE cellsDT h2
  exact ⟨World.block_lt_of_cell? W _ (ht.cell gD 0 (by rw [Lib.pow10Tab_length]; omega)), ht⟩
def l32 : List Int := [0, 1, 28, 2, 29, 14, 24, 3, 30, 22, 20, 15, 25, 17, 4, 8, 31, 27, 13, 23, 21, 19, 16, 7, 26, 12, 18, 6, 11, 5, 10, 9]
def l64 : List Int := [0, 1, 56, 2, 57, 49, 28, 3, 61, 58, 42, 50, 38, 29, 17, 4, 62, 47, 59, 36, 45, 43, 51, 22, 53, 39, 33, 30, 24, 18, 12, 5, 63, 55, 48, 27, 60, 41, 37, 16, 46, 35, 44, 21, 52, 32, 23, 11, 54, 26, 40, 15, 34, 20, 31, 10, 25, 14, 19, 9, 13, 8, 7, 6]
def fillD (k : IntKind) (l : List Int) : Obj → Obj
  | .cells _ t frozen => .cells (l.map fun z => Value.int k z).toArray t frozen
  | o => o
noncomputable def laidWorldD (os : Os) : World :=
  let w0 := World.holding Tryd.prog os ⟨#[], #[], []⟩
  { w0 with heap := ((w0.heap.modify 6 (fillD .u8 l32)).modify 7 (fillD .u8 l64)).modify 3 (fillD .u64 Lib.pow10Tab) }
theorem laid_metD (os : Os) (args : Array Value) : laidMetH Tryd.prog laidD ((laidWorldD os).forCall (fun _ _ => 0) ⟨#[], args, []⟩).memory :=
  laidMet_of_run' 8 (by kernel_rfl) (by kernel_rfl)

end Go.Proofs.YtmekpinhhmknnaaDoor
