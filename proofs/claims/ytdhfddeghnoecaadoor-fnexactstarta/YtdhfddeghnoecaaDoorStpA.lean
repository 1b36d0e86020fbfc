/- The small pieces that a step of the program's ladder is made of; the ladder on numbers. -/
import Derived.Test.YtdhfddeghnoecaaDoorFldA
import Derived.Test.YtdhfddeghnoecaaDoorRegB
namespace Go.Proofs.YtdhfddeghnoecaaDoor
open Go.RowKit Go.My Go.Lib
set_option linter.unusedVariables false

def fAd (a b : Nat) : Nat := (a + b) % P25n
def fSb (a b : Nat) : Nat := (a + (P25n - b)) % P25n
def fMu (a b : Nat) : Nat := a * b % P25n
theorem fAd_lt (a b : Nat) : fAd a b < P25n := Nat.mod_lt _ (by decide)
theorem fSb_lt (a b : Nat) : fSb a b < P25n := Nat.mod_lt _ (by decide)
theorem fMu_lt (a b : Nat) : fMu a b < P25n := Nat.mod_lt _ (by decide)
theorem ltW {a : Nat} (h : a < P25n) : a < W256 := Nat.lt_trans h (by decide)

theorem fAdd_any (a b c : Nat) (w : World) (hc : c = fAd a b) (ha : a < P25n) (hb : b < P25n) (hp : TabP w) :
    Calls Tryd.prog 83 [Value.agg (fldA a), Value.agg (fldA b)].toArray w fun e w' => e = .returned (.agg (fldA c)) ∧ Below w.heap.size w w' := by
  have := plus_any a b w (by unfold W256; unfold P25n at *; omega) hp
  rw [red_mod (a + b) (by omega)] at this
  rw [hc]
  exact this
theorem fSub_any (a b c : Nat) (w : World) (hc : c = fSb a b) (ha : a < P25n) (hb : b < P25n) (hp : TabP w) :
    Calls Tryd.prog 84 [Value.agg (fldA a), Value.agg (fldA b)].toArray w fun e w' => e = .returned (.agg (fldA c)) ∧ Below w.heap.size w w' := by
  have := minus_any a b w ha (by omega) hp
  rw [red_mod (a + (P25n - b)) (by omega)] at this
  rw [hc]
  exact this
theorem fMul_any (a b c : Nat) (w : World) (hc : c = fMu a b) (ha : a < P25n) (hb : b < P25n) (hp : TabP w) :
    Calls Tryd.prog 68 [Value.agg (fldA a), Value.agg (fldA b)].toArray w fun e w' => e = .returned (.agg (fldA c)) ∧ Below w.heap.size w w' := by
  rw [hc]
  exact times_any a b w (ltW ha) (ltW hb) hp

theorem cfPlus (args : Array Value) (w : World) : (callFunc 83 args).run Tryd.prog w = .ok (.enter 83 args) w := cf_of Tryd.func83 (by kernel_rfl) (by kernel_rfl) args w
theorem cfMinus (args : Array Value) (w : World) : (callFunc 84 args).run Tryd.prog w = .ok (.enter 84 args) w := cf_of Tryd.func84 (by kernel_rfl) (by kernel_rfl) args w
theorem cfTimes (args : Array Value) (w : World) : (callFunc 68 args).run Tryd.prog w = .ok (.enter 68 args) w := cf_of Tryd.func68 (by kernel_rfl) (by kernel_rfl) args w

abbrev Z8 : Array Value := #[Value.int .u64 0, Value.int .u64 0, Value.int .u64 0, Value.int .u64 0, Value.int .u64 0, Value.int .u64 0, Value.int .u64 0, Value.int .u64 0]
theorem alF (w : World) : (Instr.alloc 60 true (.tuple #[])).run Tryd.prog w = .ok (.pointer (some ⟨w.heap.size, 0, none⟩)) (w.alloc (.cells Z4 60)) := by kernel_rfl
theorem alP (w : World) : (Instr.alloc 81 true (.tuple #[])).run Tryd.prog w = .ok (.pointer (some ⟨w.heap.size, 0, none⟩)) (w.alloc (.cells Z8 81)) := by kernel_rfl
theorem fx (g : Nat) (w : World) : (Instr.fieldAt 81 (.pointer (some ⟨g, 0, none⟩)) 0).run Tryd.prog w = .ok (.pointer (some ⟨g, 0, none⟩)) w := by kernel_rfl
theorem fz (g : Nat) (w : World) : (Instr.fieldAt 81 (.pointer (some ⟨g, 0, none⟩)) 1).run Tryd.prog w = .ok (.pointer (some ⟨g, 4, none⟩)) w := by kernel_rfl
theorem bF (n : Nat) (hn : n < 18446744073709551616) (w : World) : (Instr.build 60 #[(0, .int .u64 n)]).run Tryd.prog w = .ok (.agg (fldA n)) w := by
  rw [← fld_small n hn]
  kernel_rfl
theorem bP (x z : Nat) (w : World) : (Instr.build 81 #[(0, .agg (fldA x)), (1, .agg (fldA z))]).run Tryd.prog w = .ok (.agg (ptA x z)) w := by kernel_rfl
theorem szP : (Tryd.prog.info? 81).map (·.size) = some 8 := by kernel_rfl
theorem ptSz (x z : Nat) : (Tryd.prog.info? 81).map (·.size) = some (ptA x z).size := by rw [ptA_size]; exact szP
theorem ptOne (x z : Nat) : (ptA x z).all (·.oneCell') = true := by rw [ptA, Array.all_append, oneN, oneN]; rfl
theorem z8p (x z : Nat) : Z8.size = (ptA x z).size := by rw [ptA_size]; rfl
theorem ptld {g x z : Nat} {w : World} (h : w.heap[g]? = some (.cells (ptA x z) 81 (0, 0))) : (Instr.loadAt 81 (.pointer (some ⟨g, 0, none⟩))).run Tryd.prog w = .ok (.agg (ptA x z)) w := by
  have hr : w.rangeAt g 0 (ptA x z).toList := fun j v hv => by
    rw [Nat.zero_add, cell_of_row _ _ _ _ _ _ h]
    simpa using hv
  obtain ⟨d, hd, hrow⟩ : ∃ d, Tryd.prog.underlying 81 = some d ∧ d.isRow = true := ⟨_, Tryd.underlying81, rfl⟩
  have := run_loadAt_mid (P := Tryd.prog) w g 0 81 (ptA x z).toList d hr hd hrow (by rw [Array.length_toList]; exact ptSz x z)
  rw [Array.toArray_toList] at this
  exact this
theorem FldAt.kept {g o n : Nat} {G : Nat → Prop} {V W : World} (hb : Kept G V W) (hn : ¬ G g) (h : FldAt g o n V) : FldAt g o n W :=
  ⟨Nat.lt_of_lt_of_le h.1 hb.size, fun j v hv => (World.cell?_of_block (w := V) (hb.block g h.1 hn)).trans (h.2 j v hv)⟩
theorem TabP.kept {G : Nat → Prop} {V W : World} (hb : Kept G V W) (hn : ¬ G 0) (h : TabP V) : TabP W :=
  ⟨Nat.lt_of_lt_of_le h.1 hb.size, fun i hi => (World.cell?_of_block (w := V) (hb.block _ h.1 hn)).trans (h.2 i hi)⟩
theorem FldAt.blk {g n T : Nat} {w : World} (h : w.heap[g]? = some (.cells (fldA n) T (0, 0))) : FldAt g 0 n w :=
  ⟨(Array.getElem?_eq_some_iff.1 h).1, fun j v hv => by
    rw [Nat.zero_add, cell_of_row _ _ _ _ _ _ h]
    simpa using hv⟩
theorem FldAt.px {g x z T : Nat} {w : World} (h : w.heap[g]? = some (.cells (ptA x z) T (0, 0))) : FldAt g 0 x w :=
  ⟨(Array.getElem?_eq_some_iff.1 h).1, fun j v hv => by
    rw [Nat.zero_add, cell_of_row _ _ _ _ _ _ h, ptA, Array.getElem?_append_left (by have := (List.getElem?_eq_some_iff.1 hv).1; simpa using this)]
    simpa using hv⟩
theorem FldAt.pz {g x z T : Nat} {w : World} (h : w.heap[g]? = some (.cells (ptA x z) T (0, 0))) : FldAt g 4 z w :=
  ⟨(Array.getElem?_eq_some_iff.1 h).1, fun j v hv => by
    rw [cell_of_row _ _ _ _ _ _ h, ptA, Array.getElem?_append_right (by rw [fldA, rwA_size]; omega), show 4 + j - (fldA x).size = j by rw [fldA, rwA_size]; omega]
    simpa using hv⟩
def stepN (a b : Nat × Nat) (u : Nat) : (Nat × Nat) × (Nat × Nat) :=
  let s := fAd a.1 a.2
  let d := fSb a.1 a.2
  let ss := fMu s s
  let dd := fMu d d
  let g := fSb ss dd
  let l := fMu (fSb b.1 b.2) s
  let r := fMu (fAd b.1 b.2) d
  let p := fAd l r
  let q := fSb l r
  ((fMu ss dd, fMu g (fAd ss (fMu g 121665))), (fMu p p, fMu u (fMu q q)))
theorem results_row2 {P : Program} {fn : Func} {p q : Tmp} {ty : TypeId} (h : fn.results = #[.cell p ty, .cell q ty]) (tmps : Array Value) (w : World) (g k : Nat) (t : TypeId) (cs ds : Array Value) (fr : Nat × Nat) (d : TypeDesc)
    (hp : tmps.getD p undef = .pointer (some ⟨g, 0, none⟩)) (hq : tmps.getD q undef = .pointer (some ⟨k, 0, none⟩)) (hg : w.heap[g]? = some (.cells cs t fr)) (hk : w.heap[k]? = some (.cells ds t fr))
    (hu : P.underlying ty = some d) (hd : d.isRow = true) (hi : (P.info? ty).map (·.size) = some cs.size) (hi2 : (P.info? ty).map (·.size) = some ds.size) : (results fn tmps).run P w = .ok (.tuple #[.agg cs, .agg ds]) w := by
  have h1 := run_loadVar_row (P := P) w g t ty cs fr d hg hu (by cases d <;> first | rfl | exact hd) hi
  have h2 := run_loadVar_row (P := P) w k t ty ds fr d hk hu (by cases d <;> first | rfl | exact hd) hi2
  unfold results
  rw [h]
  have hp' : tmps[p]?.getD undef = .pointer (some ⟨g, 0, none⟩) := by simpa using hp
  have hq' : tmps[q]?.getD undef = .pointer (some ⟨k, 0, none⟩) := by simpa using hq
  simp [hp', hq', asAddr, h1, h2]

end Go.Proofs.YtdhfddeghnoecaaDoor
