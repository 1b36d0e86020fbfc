/- The contracts of readField, and of the field's functions of the program. -/
import Derived.Test.YtdhfddeghnoecaaDoorFld5
import Derived.Laws.StructEq
import Derived.Laws.ResultCell
namespace Go.Proofs.YtdhfddeghnoecaaDoor
open Go.RowKit Go.My Go.Lib
set_option linter.unusedVariables false

theorem redF_same (n : Nat) : (redF n = n) ↔ n < P25n := by
  unfold redF P25n
  split <;> omega

theorem sizeOf_u64 (w : World) : (sizeOf 58).run Tryd.prog w = .ok 1 w := by kernel_rfl
theorem run_eq4 (d : Nat) (f g : Nat → Int) (w : World) : (Op.equalIn (d + 2) 60 (.agg (rwA .u64 4 f)) (.agg (rwA .u64 4 g))).run Tryd.prog w = .ok ((List.range 4).all fun i => f i == g i) w := by
  rw [List.range_eq_range', Op.equalIn]
  simp only [Sem.run_bind, run_underlying Tryd.underlying60, Result.andThen_ok, sizeOf_u64, Std.Legacy.Range.forIn_eq_forIn_range', Std.Legacy.Range.size, Nat.sub_zero, Nat.add_sub_cancel, Nat.div_one]
  have hl : ∀ i ∈ List.range' 0 4 1, i < 4 := fun i hi => by simpa using (List.mem_range'_1.1 hi).2
  generalize List.range' 0 4 1 = l at hl ⊢
  induction l with
  | nil => simp
  | cons i l ih =>
    have hi : i < 4 := hl i (by simp)
    have px : ∀ f : Nat → Int, (part 58 (rwA .u64 4 f) (i * 1)).run Tryd.prog w = .ok (.int .u64 (f i)) w := fun f => by
      simp [part, isAgg, run_underlying Tryd.underlying58, rwA_get .u64 4 f i hi]
    have pe : (Op.equalIn (d + 1) 58 (.int .u64 (f i)) (.int .u64 (g i))).run Tryd.prog w = .ok (f i == g i) w := run_equalIn_int w d 58 .u64 .u64 _ _ Tryd.underlying58
    simp only [List.forIn_cons, Sem.run_bind, px, pe, Result.andThen_ok, List.all_cons]
    cases hb : (f i == g i)
    · simp
    · simp only [Bool.not_true, Bool.false_eq_true, if_false, Sem.run_pure, Result.andThen_ok, Bool.true_and]
      exact ih fun j hj => hl j (by simp [hj])
theorem all4 (n m : Nat) (hn : n < W256) (hm : m < W256) : ((List.range 4).all fun i => (lw n i : Int) == (lw m i : Int)) = decide (n = m) := by
  by_cases h : n = m
  · subst h
    rw [decide_eq_true rfl]
    simp
  · rw [decide_eq_false h]
    refine Bool.eq_false_iff.2 fun c => h ?_
    rw [List.all_eq_true] at c
    have e : ∀ i, i < 4 → lw n i = lw m i := fun i hi => by
      have := c i (List.mem_range.2 hi)
      rw [beq_iff_eq] at this
      omega
    rw [← V4_lw n hn, ← V4_lw m hm]
    unfold V4
    rw [e 0 (by omega), e 1 (by omega), e 2 (by omega), e 3 (by omega)]
theorem redF_lt (n : Nat) (h : n < W256) : redF n < W256 := by
  unfold redF P25n
  unfold W256 at *
  split <;> omega
theorem run_same (n : Nat) (h : n < W256) (w : World) : (Op.equalIn 10000 60 (.agg #[Value.int .u64 (lw n 0 : Int), Value.int .u64 (lw n 1 : Int), Value.int .u64 (lw n 2 : Int), Value.int .u64 (lw n 3 : Int)]) (.agg (fldA (redF n)))).run Tryd.prog w = .ok (decide (n < P25n)) w := by
  have := run_eq4 9998 (fun q => (lw n q : Int)) (fun q => (lw (redF n) q : Int)) w
  rw [all4 n (redF n) h (redF_lt n h)] at this
  rw [show decide (n < P25n) = decide (n = redF n) from decide_eq_decide.2 ⟨fun h => ((redF_same n).2 h).symm, fun h => (redF_same n).1 h.symm⟩]
  exact this
theorem fld_lit (n : Nat) : fldA n = #[Value.int .u64 (lw n 0 : Int), Value.int .u64 (lw n 1 : Int), Value.int .u64 (lw n 2 : Int), Value.int .u64 (lw n 3 : Int)] := rfl
theorem set4 {w : World} {g t : Nat} {A : Array Value} (h : w.heap[g]? = some (.cells A t (0, 0))) (hs : A.size = 4) (x0 x1 x2 x3 : Value) :
    ((((w.setCell ⟨g, 0, none⟩ x0).setCell ⟨g, 1, none⟩ x1).setCell ⟨g, 2, none⟩ x2).setCell ⟨g, 3, none⟩ x3).heap[g]? = some (.cells #[x0, x1, x2, x3] t (0, 0)) := by
  have h0 := heap_setCell_same w g 0 A t x0 h
  have h1 := heap_setCell_same _ g 1 _ t x1 h0
  have h2 := heap_setCell_same _ g 2 _ t x2 h1
  have h3 := heap_setCell_same _ g 3 _ t x3 h2
  rw [h3]
  rcases A with ⟨l⟩
  simp only [List.setIfInBounds_toArray]
  match l, hs with
  | [_, _, _, _], _ => simp only [List.set]
theorem row_cells {w : World} {g n : Nat} (h : w.heap[g]? = some (.cells (fldA n) 60 (0, 0))) : w.cell? ⟨g, 0, none⟩ = some (.int .u64 (lw n 0 : Int)) ∧ w.cell? ⟨g, 1, none⟩ = some (.int .u64 (lw n 1 : Int)) ∧ w.cell? ⟨g, 2, none⟩ = some (.int .u64 (lw n 2 : Int)) ∧ w.cell? ⟨g, 3, none⟩ = some (.int .u64 (lw n 3 : Int)) :=
  ⟨(cell_of_row w g 0 _ _ _ h).trans rfl, (cell_of_row w g 1 _ _ _ h).trans rfl, (cell_of_row w g 2 _ _ _ h).trans rfl, (cell_of_row w g 3 _ _ _ h).trans rfl⟩
theorem z_cells {w : World} {g : Nat} (h : w.heap[g]? = some (.cells Z4 60 (0, 0))) : w.cell? ⟨g, 0, none⟩ = some (.int .u64 0) ∧ w.cell? ⟨g, 1, none⟩ = some (.int .u64 0) ∧ w.cell? ⟨g, 2, none⟩ = some (.int .u64 0) ∧ w.cell? ⟨g, 3, none⟩ = some (.int .u64 0) :=
  ⟨(cell_of_row w g 0 _ _ _ h).trans rfl, (cell_of_row w g 1 _ _ _ h).trans rfl, (cell_of_row w g 2 _ _ _ h).trans rfl, (cell_of_row w g 3 _ _ _ h).trans rfl⟩

theorem results_row_tmp {P : Program} {fn : Func} {p u : Tmp} {ty : TypeId} (h : fn.results = #[.cell p ty, .tmp u]) (tmps : Array Value) (w : World) (g : Nat) (t : TypeId) (cs : Array Value) (fr : Nat × Nat) (d : TypeDesc)
    (hp : tmps.getD p undef = .pointer (some ⟨g, 0, none⟩)) (hg : w.heap[g]? = some (.cells cs t fr))
    (hu : P.underlying ty = some d) (hd : (match d with | .struct _ | .array _ _ => true | _ => false) = true) (hi : (P.info? ty).map (·.size) = some cs.size) :
    (results fn tmps).run P w = .ok (.tuple #[.agg cs, tmps.getD u undef]) w := by
  rw [results_cell_tmp h, hp]
  simp [asAddr, run_loadVar_row w g t ty cs fr d hg hu hd hi]
theorem keep4 {w : World} {g h i : Nat} {x0 x1 x2 x3 v : Value} (hne : h ≠ g) (hc : w.cell? ⟨h, i, none⟩ = some v) :
    ((((w.setCell ⟨g, 0, none⟩ x0).setCell ⟨g, 1, none⟩ x1).setCell ⟨g, 2, none⟩ x2).setCell ⟨g, 3, none⟩ x3).cell? ⟨h, i, none⟩ = some v :=
  cell_set_blk _ hne (cell_set_blk _ hne (cell_set_blk _ hne (cell_set_blk _ hne hc)))

end Go.Proofs.YtdhfddeghnoecaaDoor
