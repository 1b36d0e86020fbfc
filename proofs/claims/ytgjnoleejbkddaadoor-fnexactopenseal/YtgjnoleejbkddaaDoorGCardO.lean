/- What the listed table of round words and the two listed errors give the walks; a world that holds them. -/
import Derived.Test.YtgjnoleejbkddaaDoorRows
import Derived.Test.YtgjnoleejbkddaaDoorCards
import Derived.Test.YtgjnoleejbkddaaDoorTie
import Derived.WalkKit
import Derived.ProofKit
import Derived.OpenShut
import Derived.ShutString
import Derived.ChangeOld
import Derived.ChangeVars
import Derived.OpenVars
import Derived.Below
import Derived.Deep.DeepHandedRow
import Derived.Lib.LaidTab
import Derived.Test.YtgjnoleejbkddaaDoorGCardK
import Derived.Stop.LaidErr
import Derived.Stop.ErrReads
import Derived.LaidEql
namespace Go.Proofs.YtgjnoleejbkddaaDoor
open Go.RowKit Go.My Go.Lib Go.Stop Go.Extern Go.Extern.Stop
set_option linter.unusedVariables false

theorem trodVars_three {H : Type} {enc : TypeId × Value → H} {P : Program} {w : World} {spare : Nat → Bool} {n0 n1 n2 : String} {gs : List (DataW H)} {ps : List MemPlace} (h : DataW.TrodVars enc P w spare [n0, n1, n2] gs ps) : ∃ d0 d1 d2, gs = [d0, d1, d2] := by
  match gs, h with
  | [], h => simp [DataW.TrodVars] at h
  | [d], h => obtain ⟨_, _, _, _, _, _, _, _, _, _, hs, _⟩ := h; simp [DataW.TrodVars] at hs
  | [d, d1], h => obtain ⟨_, _, _, _, _, _, _, _, _, _, ⟨_, _, _, _, _, _, _, _, _, _, hs, _⟩, _⟩ := h; simp [DataW.TrodVars] at hs
  | [d, d1, d2], h => exact ⟨d, d1, d2, rfl⟩
  | d :: d1 :: d2 :: d3 :: ds, h => obtain ⟨_, _, _, _, _, _, _, _, _, _, ⟨_, _, _, _, _, _, _, _, _, _, ⟨_, _, _, _, _, _, _, _, _, _, hs, _⟩, _⟩, _⟩ := h; simp [DataW.TrodVars] at hs

/-- The table, and the two errors: pointers of one type. -/
structure TabO (a b : Addr) (w : World) : Prop where
  k : TabK w
  f0 : 0 < w.heap.size
  f : w.cell? ⟨0, 0, none⟩ = some (.iface 91 (.pointer (some a)))
  t0 : 1 < w.heap.size
  t : w.cell? ⟨1, 0, none⟩ = some (.iface 91 (.pointer (some b)))
  fb : ∃ c u, w.heap[a.block]? = some (.cells c u (0, 0))
  tb : ∃ c u, w.heap[b.block]? = some (.cells c u (0, 0))
theorem blk_below {k : Nat} {w w' : World} (h : ∃ c u, w.heap[k]? = some (.cells c u (0, 0))) (hb : Below w.heap.size w w') : ∃ c u, w'.heap[k]? = some (.cells c u (0, 0)) := by
  obtain ⟨c, u, e⟩ := h
  exact ⟨c, u, (hb.block k (Array.getElem?_eq_some_iff.1 e).1).trans e⟩
theorem TabO.below {a b : Addr} {w w' : World} (h : TabO a b w) (hb : Below w.heap.size w w') : TabO a b w' :=
  ⟨h.k.below hb h.k.1, Nat.lt_of_lt_of_le h.f0 hb.size, (hb.cell (p := ⟨0, 0, none⟩) h.f0).trans h.f, Nat.lt_of_lt_of_le h.t0 hb.size, (hb.cell (p := ⟨1, 0, none⟩) h.t0).trans h.t, blk_below h.fb hb, blk_below h.tb hb⟩

theorem gF : Tryd.prog.globalNamed "loop.example/g00702/impl.errSealForm" = some 0 := by kernel_rfl
theorem gFType : (Tryd.prog.globals[0]?).map (·.type) = some 35 := by kernel_rfl
theorem gT : Tryd.prog.globalNamed "loop.example/g00702/impl.errSealTag" = some 1 := by kernel_rfl
theorem gTType : (Tryd.prog.globals[1]?).map (·.type) = some 35 := by kernel_rfl
theorem cellsOS : Tryd.prog.cellsOf 106 = 1 := by kernel_rfl
theorem cellsO9 : Tryd.prog.cellsOf 9 = 1 := by kernel_rfl
theorem starO : "*" ++ "errors.errorString" = "*errors.errorString" := by decide
theorem rowO (u : TypeId) (h : Tryd.prog.typeName? 3 u = some "*errors.errorString") : u = 91 :=
  typeName_ptr_named (nm := "errors.errorString") (by rw [starO]; kernel_rfl) (by kernel_rfl) (by decide) u (by rw [starO]; exact h)
def laidO : List (String × DataW Unit) := [("loop.example/g00702/impl.roundWords", Rows.laid_loop_example_g00702_impl_roundWords), ("loop.example/g00702/impl.errSealForm", Rows.laid_loop_example_g00702_impl_errSealForm), ("loop.example/g00702/impl.errSealTag", Rows.laid_loop_example_g00702_impl_errSealTag)]
theorem tabIsOk {W : World} (h : laidMetH Tryd.prog laidO W) : Lib.TabIs Tryd.prog W "loop.example/g00702/impl.roundWords" .u32 kL :=
  Lib.tabIs_of_head (rest := [("loop.example/g00702/impl.errSealForm", Rows.laid_loop_example_g00702_impl_errSealForm), ("loop.example/g00702/impl.errSealTag", Rows.laid_loop_example_g00702_impl_errSealTag)]) gK gKType Tryd.underlying78 Tryd.underlying64 cellsKE cellsKT h
/-- A listed error: its variable, and the block that it points to. -/
theorem sentinelB {P : Program} {n nm : String} {text : List UInt8} {r : List (String × DataW Unit)} {W : World} {g : Nat} {ti tp te ts : TypeId} {ms : Array (String × TypeId)} {f : Field}
    (h : laidMet P ((n, .iface nm (.ptr (.agg [.lit (.string text)]))) :: r) W)
    (hg : P.globalNamed n = some g) (ht : (P.globals[g]?).map (·.type) = some ti) (hi : P.underlying ti = some (.interface ms)) (hrow : ∀ u, P.typeName? 3 u = some nm → u = tp)
    (hp : P.underlying tp = some (.pointer te)) (he : P.underlying te = some (.struct #[f])) (hft : f.type = ts) (hfo : f.offset = 0) (hs : P.underlying ts = some .string) (hc : P.cellsOf te = 1) (hcs : P.cellsOf ts = 1) :
    ∃ a : Addr, W.var? P n = some #[.iface tp (.pointer (some a))] ∧ ∃ c u, W.heap[a.block]? = some (.cells c u (0, 0)) := by
  obtain ⟨ps, ⟨g0, t0, ⟨l0⟩, f0, p0, q0, hg0, ht0, hv0, hd0, _, rfl⟩, _, hrows⟩ := h
  obtain rfl := Option.some.inj (hg.symm.trans hg0)
  obtain rfl := Option.some.inj (ht.symm.trans ht0)
  have ok0 : ∀ u v, l0 = [.iface u v] → Value.okWide P W .any 0 u v := fun u v e => by
    subst e
    exact (hrows g 0 (by simp [MemPlace.row])).2 u v (by simpa using World.var?_cell hg0 hv0 0)
  obtain ⟨a0, _, rfl, _, _, _, rfl⟩ := errorString_of_trod hi hrow hp he hft hfo hs hc hcs hd0 ok0
  exact ⟨a0, hv0, (hrows a0.block a0.off (by simp [MemPlace.row])).1⟩
theorem infoPO : (Tryd.prog.info? 91).map (·.comparable) = some true := by kernel_rfl
theorem infoEO : (Tryd.prog.info? 106).map (·.size) = some 1 := by kernel_rfl
theorem eqlSame (a : Addr) (w : World) : (binOp .eql 35 (.iface 91 (.pointer (some a))) (.iface 91 (.pointer (some a)))).run Tryd.prog w = .ok (.bool true) w := by
  obtain ⟨i, hi, hc⟩ := Option.map_eq_some_iff.1 infoPO
  obtain ⟨j, hj, _⟩ := Option.map_eq_some_iff.1 infoEO
  exact run_eql_iface_ptr_same w a Tryd.underlying35 Tryd.underlying91 hi hc hj
theorem eqlOther (a b : Addr) (w : World) (hne : a ≠ b) (ha : ∃ c u, w.heap[a.block]? = some (.cells c u (0, 0))) (hb : ∃ c u, w.heap[b.block]? = some (.cells c u (0, 0))) : (binOp .eql 35 (.iface 91 (.pointer (some a))) (.iface 91 (.pointer (some b)))).run Tryd.prog w = .ok (.bool false) w := by
  obtain ⟨i, hi, hc⟩ := Option.map_eq_some_iff.1 infoPO
  obtain ⟨j, hj, hz⟩ := Option.map_eq_some_iff.1 infoEO
  obtain ⟨_, _, ha⟩ := ha
  obtain ⟨_, _, hb⟩ := hb
  exact run_eql_iface_ptr_other w Tryd.underlying35 Tryd.underlying91 hi hc hj (by omega) hne ha hb
theorem eqlNil (a : Addr) (w : World) : (binOp .eql 35 .nilIface (.iface 91 (.pointer (some a)))).run Tryd.prog w = .ok (.bool false) w := run_eql_iface_nil_left w _ _ Tryd.underlying35
theorem tab_ofO {W : World} (h : laidMetH Tryd.prog laidO W) : ∃ a b, TabO a b W := by
  have h0 : laidMet Tryd.prog laidO W := h
  have h1 := h0.tail
  have h2 := h1.tail
  obtain ⟨a, hva, hfa⟩ := sentinelB h1 gF gFType Tryd.underlying35 rowO Tryd.underlying91 Tryd.underlying106 rfl rfl Tryd.underlying9 cellsOS cellsO9
  obtain ⟨b, hvb, hfb⟩ := sentinelB h2 gT gTType Tryd.underlying35 rowO Tryd.underlying91 Tryd.underlying106 rfl rfl Tryd.underlying9 cellsOS cellsO9
  have ha : W.cell? ⟨0, 0, none⟩ = some (.iface 91 (.pointer (some a))) := by simpa using World.var?_cell gF hva 0
  have hb : W.cell? ⟨1, 0, none⟩ = some (.iface 91 (.pointer (some b))) := by simpa using World.var?_cell gT hvb 0
  have hc : ∀ i, i < 64 → W.cell? ⟨2, i, none⟩ = some (.int .u32 (kW i)) := fun i hi => (tabIsOk h).cell gK i hi
  exact ⟨a, b, ⟨World.block_lt_of_cell? W _ (hc 0 (by decide)), hc⟩, World.block_lt_of_cell? W _ ha, ha, World.block_lt_of_cell? W _ hb, hb, hfa, hfb⟩
abbrev txtF : ByteArray := { data := #[110, 111, 32, 115, 101, 97, 108, 32, 104, 97, 115, 32, 116, 104, 105, 115, 32, 102, 111, 114, 109] }
abbrev txtT : ByteArray := { data := #[116, 104, 101, 32, 115, 101, 97, 108, 32, 104, 97, 115, 32, 97, 110, 111, 116, 104, 101, 114, 32, 116, 97, 103] }
noncomputable def lowO : Nat := (World.holding Tryd.prog default ⟨#[], #[], []⟩).heap.size
def fillO (vs : Array Value) : Obj → Obj
  | .cells _ t frozen => .cells vs t frozen
  | o => o
noncomputable def laidWorldO (os : Os) : World :=
  let w0 := World.holding Tryd.prog os ⟨#[.cells #[.string txtF] 106, .cells #[.string txtT] 106], #[], []⟩
  { w0 with heap := ((w0.heap.modify 2 (fillO (kL.map fun z => Value.int .u32 z).toArray)).modify 0 (fillO #[.iface 91 (.pointer (some ⟨lowO, 0, none⟩))])).modify 1 (fillO #[.iface 91 (.pointer (some ⟨lowO + 1, 0, none⟩))]) }
theorem laid_metO (os : Os) (args : Array Value) : laidMetH Tryd.prog laidO ((laidWorldO os).forCall (fun _ _ => 0) ⟨#[], args, []⟩).memory :=
  laidMet_of_run' 8 (by kernel_rfl) (by kernel_rfl)

end Go.Proofs.YtgjnoleejbkddaaDoor
