/- The contracts of readField, and of the field's functions of the program. -/
import Derived.Test.YtcaepcfgeelojaaFld5
import Derived.Laws.StructEq
import Derived.Laws.ResultCell
namespace Go.Proofs.Ytcaepcfgeelojaa
open Go.RowKit Go.My Go.Lib
set_option linter.unusedVariables false

theorem redF_same (n : Nat) : (redF n = n) ↔ n < P25n := by
  unfold redF P25n
  split <;> omega

theorem all4 (n m : Nat) (hn : n < W256) (hm : m < W256) : ((List.range 4).all fun i => (lw n i : Int) == (lw m i : Int)) = decide (n = m) := by
  by_cases h : n = m
  · subst h
    rw [decide_eq_true rfl]
    simp
  · rw [decide_eq_false h]
    refine Bool.eq_false_iff.2 fun c => h ?_
    rw [List.all_eq_true] at c
    have e : ∀ i, i < 4 → lw n i = lw m i := fun i hi => by
      have := c i (List.mem_range.2 hi)
      rw [beq_iff_eq] at this
      omega
    rw [← V4_lw n hn, ← V4_lw m hm]
    unfold V4
    rw [e 0 (by omega), e 1 (by omega), e 2 (by omega), e 3 (by omega)]
theorem redF_lt (n : Nat) (h : n < W256) : redF n < W256 := by
  unfold redF P25n
  unfold W256 at *
  split <;> omega
theorem fld_lit (n : Nat) : fldA n = #[Value.int .u64 (lw n 0 : Int), Value.int .u64 (lw n 1 : Int), Value.int .u64 (lw n 2 : Int), Value.int .u64 (lw n 3 : Int)] := rfl
theorem set4 {w : World} {g t : Nat} {A : Array Value} (h : w.heap[g]? = some (.cells A t (0, 0))) (hs : A.size = 4) (x0 x1 x2 x3 : Value) :
    ((((w.setCell ⟨g, 0, none⟩ x0).setCell ⟨g, 1, none⟩ x1).setCell ⟨g, 2, none⟩ x2).setCell ⟨g, 3, none⟩ x3).heap[g]? = some (.cells #[x0, x1, x2, x3] t (0, 0)) := by
  have h0 := heap_setCell_same w g 0 A t x0 h
  have h1 := heap_setCell_same _ g 1 _ t x1 h0
  have h2 := heap_setCell_same _ g 2 _ t x2 h1
  have h3 := heap_setCell_same _ g 3 _ t x3 h2
  rw [h3]
  rcases A with ⟨l⟩
  simp only [List.setIfInBounds_toArray]
  match l, hs with
  | [_, _, _, _], _ => simp only [List.set]
theorem results_row_tmp {P : Program} {fn : Func} {p u : Tmp} {ty : TypeId} (h : fn.results = #[.cell p ty, .tmp u]) (tmps : Array Value) (w : World) (g : Nat) (t : TypeId) (cs : Array Value) (fr : Nat × Nat) (d : TypeDesc)
    (hp : tmps.getD p undef = .pointer (some ⟨g, 0, none⟩)) (hg : w.heap[g]? = some (.cells cs t fr))
    (hu : P.underlying ty = some d) (hd : (match d with | .struct _ | .array _ _ => true | _ => false) = true) (hi : (P.info? ty).map (·.size) = some cs.size) :
    (results fn tmps).run P w = .ok (.tuple #[.agg cs, tmps.getD u undef]) w := by
  rw [results_cell_tmp h, hp]
  simp [asAddr, run_loadVar_row w g t ty cs fr d hg hu hd hi]
theorem keep4 {w : World} {g h i : Nat} {x0 x1 x2 x3 v : Value} (hne : h ≠ g) (hc : w.cell? ⟨h, i, none⟩ = some v) :
    ((((w.setCell ⟨g, 0, none⟩ x0).setCell ⟨g, 1, none⟩ x1).setCell ⟨g, 2, none⟩ x2).setCell ⟨g, 3, none⟩ x3).cell? ⟨h, i, none⟩ = some v :=
  cell_set_blk _ hne (cell_set_blk _ hne (cell_set_blk _ hne (cell_set_blk _ hne hc)))

end Go.Proofs.Ytcaepcfgeelojaa
