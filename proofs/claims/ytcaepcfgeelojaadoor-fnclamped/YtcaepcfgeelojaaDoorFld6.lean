/- The contracts of readField, and of the field's functions of the program. -/
import Derived.Test.YtcaepcfgeelojaaDoorFld5
import Derived.Laws.StructEq
import Derived.Laws.ResultCell
namespace Go.Proofs.YtcaepcfgeelojaaDoor
open Go.RowKit Go.My Go.Lib
set_option linter.unusedVariables false

theorem redF_same (n : Nat) : (redF n = n) ↔ n < P25n := by
  unfold redF P25n
  split <;> omega

theorem sizeOf_u64 (w : World) : (sizeOf 32).run Tryd.prog w = .ok 1 w := by kernel_rfl
theorem run_eq4 (d : Nat) (f g : Nat → Int) (w : World) : (Op.equalIn (d + 2) 34 (.agg (rwA .u64 4 f)) (.agg (rwA .u64 4 g))).run Tryd.prog w = .ok ((List.range 4).all fun i => f i == g i) w := by
  rw [List.range_eq_range', Op.equalIn]
  simp only [Sem.run_bind, run_underlying Tryd.underlying34, Result.andThen_ok, sizeOf_u64, Std.Legacy.Range.forIn_eq_forIn_range', Std.Legacy.Range.size, Nat.sub_zero, Nat.add_sub_cancel, Nat.div_one]
  have hl : ∀ i ∈ List.range' 0 4 1, i < 4 := fun i hi => by simpa using (List.mem_range'_1.1 hi).2
  generalize List.range' 0 4 1 = l at hl ⊢
  induction l with
  | nil => simp
  | cons i l ih =>
    have hi : i < 4 := hl i (by simp)
    have px : ∀ f : Nat → Int, (part 32 (rwA .u64 4 f) (i * 1)).run Tryd.prog w = .ok (.int .u64 (f i)) w := fun f => by
      simp [part, isAgg, run_underlying Tryd.underlying32, rwA_get .u64 4 f i hi]
    have pe : (Op.equalIn (d + 1) 32 (.int .u64 (f i)) (.int .u64 (g i))).run Tryd.prog w = .ok (f i == g i) w := run_equalIn_int w d 32 .u64 .u64 _ _ Tryd.underlying32
    simp only [List.forIn_cons, Sem.run_bind, px, pe, Result.andThen_ok, List.all_cons]
    cases hb : (f i == g i)
    · simp
    · simp only [Bool.not_true, Bool.false_eq_true, if_false, Sem.run_pure, Result.andThen_ok, Bool.true_and]
      exact ih fun j hj => hl j (by simp [hj])
theorem all4 (n m : Nat) (hn : n < W256) (hm : m < W256) : ((List.range 4).all fun i => (lw n i : Int) == (lw m i : Int)) = decide (n = m) := by
  by_cases h : n = m
  · subst h
    rw [decide_eq_true rfl]
    simp
  · rw [decide_eq_false h]
    refine Bool.eq_false_iff.2 fun c => h ?_
    rw [List.all_eq_true] at c
    have e : ∀ i, i < 4 → lw n i = lw m i := fun i hi => by
      have := c i (List.mem_range.2 hi)
      rw [beq_iff_eq] at this
      omega
    rw [← V4_lw n hn, ← V4_lw m hm]
    unfold V4
    rw [e 0 (by omega), e 1 (by omega), e 2 (by omega), e 3 (by omega)]
theorem redF_lt (n : Nat) (h : n < W256) : redF n < W256 := by
  unfold redF P25n
  unfold W256 at *
  split <;> omega
theorem run_same (n : Nat) (h : n < W256) (w : World) : (Op.equalIn 10000 34 (.agg #[Value.int .u64 (lw n 0 : Int), Value.int .u64 (lw n 1 : Int), Value.int .u64 (lw n 2 : Int), Value.int .u64 (lw n 3 : Int)]) (.agg (fldA (redF n)))).run Tryd.prog w = .ok (decide (n < P25n)) w := by
  have := run_eq4 9998 (fun q => (lw n q : Int)) (fun q => (lw (redF n) q : Int)) w
  rw [all4 n (redF n) h (redF_lt n h)] at this
  rw [show decide (n < P25n) = decide (n = redF n) from decide_eq_decide.2 ⟨fun h => ((redF_same n).2 h).symm, fun h => (redF_same n).1 h.symm⟩]
  exact this
theorem fld_lit (n : Nat) : fldA n = #[Value.int .u64 (lw n 0 : Int), Value.int .u64 (lw n 1 : Int), Value.int .u64 (lw n 2 : Int), Value.int .u64 (lw n 3 : Int)] := rfl
theorem set4 {w : World} {g t : Nat} {A : Array Value} (h : w.heap[g]? = some (.cells A t (0, 0))) (hs : A.size = 4) (x0 x1 x2 x3 : Value) :
    ((((w.setCell ⟨g, 0, none⟩ x0).setCell ⟨g, 1, none⟩ x1).setCell ⟨g, 2, none⟩ x2).setCell ⟨g, 3, none⟩ x3).heap[g]? = some (.cells #[x0, x1, x2, x3] t (0, 0)) := by
  have h0 := heap_setCell_same w g 0 A t x0 h
  have h1 := heap_setCell_same _ g 1 _ t x1 h0
  have h2 := heap_setCell_same _ g 2 _ t x2 h1
  have h3 := heap_setCell_same _ g 3 _ t x3 h2
  rw [h3]
  rcases A with ⟨l⟩
  simp only [List.setIfInBounds_toArray]
  match l, hs with
  | [_, _, _, _], _ => simp only [List.set]
theorem row_cells {w : World} {g n : Nat} (h : w.heap[g]? = some (.cells (fldA n) 34 (0, 0))) : w.cell? ⟨g, 0, none⟩ = some (.int .u64 (lw n 0 : Int)) ∧ w.cell? ⟨g, 1, none⟩ = some (.int .u64 (lw n 1 : Int)) ∧ w.cell? ⟨g, 2, none⟩ = some (.int .u64 (lw n 2 : Int)) ∧ w.cell? ⟨g, 3, none⟩ = some (.int .u64 (lw n 3 : Int)) :=
  ⟨(cell_of_row w g 0 _ _ _ h).trans rfl, (cell_of_row w g 1 _ _ _ h).trans rfl, (cell_of_row w g 2 _ _ _ h).trans rfl, (cell_of_row w g 3 _ _ _ h).trans rfl⟩
theorem z_cells {w : World} {g : Nat} (h : w.heap[g]? = some (.cells Z4 34 (0, 0))) : w.cell? ⟨g, 0, none⟩ = some (.int .u64 0) ∧ w.cell? ⟨g, 1, none⟩ = some (.int .u64 0) ∧ w.cell? ⟨g, 2, none⟩ = some (.int .u64 0) ∧ w.cell? ⟨g, 3, none⟩ = some (.int .u64 0) :=
  ⟨(cell_of_row w g 0 _ _ _ h).trans rfl, (cell_of_row w g 1 _ _ _ h).trans rfl, (cell_of_row w g 2 _ _ _ h).trans rfl, (cell_of_row w g 3 _ _ _ h).trans rfl⟩

theorem results_row_tmp {P : Program} {fn : Func} {p u : Tmp} {ty : TypeId} (h : fn.results = #[.cell p ty, .tmp u]) (tmps : Array Value) (w : World) (g : Nat) (t : TypeId) (cs : Array Value) (fr : Nat × Nat) (d : TypeDesc)
    (hp : tmps.getD p undef = .pointer (some ⟨g, 0, none⟩)) (hg : w.heap[g]? = some (.cells cs t fr))
    (hu : P.underlying ty = some d) (hd : (match d with | .struct _ | .array _ _ => true | _ => false) = true) (hi : (P.info? ty).map (·.size) = some cs.size) :
    (results fn tmps).run P w = .ok (.tuple #[.agg cs, tmps.getD u undef]) w := by
  rw [results_cell_tmp h, hp]
  simp [asAddr, run_loadVar_row w g t ty cs fr d hg hu hd hi]
theorem keep4 {w : World} {g h i : Nat} {x0 x1 x2 x3 v : Value} (hne : h ≠ g) (hc : w.cell? ⟨h, i, none⟩ = some v) :
    ((((w.setCell ⟨g, 0, none⟩ x0).setCell ⟨g, 1, none⟩ x1).setCell ⟨g, 2, none⟩ x2).setCell ⟨g, 3, none⟩ x3).cell? ⟨h, i, none⟩ = some v :=
  cell_set_blk _ hne (cell_set_blk _ hne (cell_set_blk _ hne (cell_set_blk _ hne hc)))

set_option maxHeartbeats 2000000 in
theorem readField_key (s : ByteArray) (w : World) (hs : s.size = 32) (hp : TabP w) :
    Calls Tryd.prog 28 #[.string s] w fun e w' => e = .returned (.tuple #[.agg (fldA (leN s.data.toList)), .bool (decide (leN s.data.toList < P25n))]) ∧ Below w.heap.size w w' := by
  have HS := Lib.hid hs
  have HN : Hid (leN s.data.toList < W256) := by
    show _ < _
    have := leN_lt s.data.toList
    rw [len_data, hs] at this
    exact this
  have hd : decide (s.size = 32) = true := decide_eq_true hs
  clear hs
  go_enter Tryd.func28, Tryd.ntmps28
  go_wp2_with fail
  refine (isKey_any s _ (by have := HS.out; omega)).mono ?_
  rintro e w' ⟨rfl, rfl⟩
  rw [hd]
  have hba : Below w.heap.size w (w.alloc (.cells Z4 34)) := (Below.refl _ _).alloc (Nat.le_refl _) _
  go_wp2_with fail
  refine (wordsOf_any s _ HS.out).mono ?_
  rintro e w1 ⟨rfl, hb1⟩
  have hz1 : w1.heap[w.heap.size]? = some (.cells Z4 34 (0, 0)) := (hb1.block _ (by simp)).trans (heap_alloc_new w _)
  have hb01 := hba.trans (hb1.mono hba.size)
  generalize hn : leN s.data.toList = n at *
  have HNN := Lib.hid hn
  clear hn hba hb1
  have hgl : w.heap.size < w1.heap.size := (Array.getElem?_eq_some_iff.1 hz1).1
  go_wp2_with (first
    | ((with_reducible refine wpList_store_row' (o := ⟨none, .store 34 _ _, _, _, _, _⟩) rfl 34 _ _ rfl w1.heap.size (fldA n) rfl rfl 34 Z4 (heap_alloc_new w1 _) (fszN _) (zszN _) (oneN _) ?_); intro w2 hw2 hs2 hg2)
    | fail)
  have hz2 : w2.heap[w.heap.size]? = some (.cells Z4 34 (0, 0)) := ((gr_fld hg2 _ (by simp; omega) (by omega)).trans (Below.heap_alloc w1 _ _ hgl)).trans hz1
  have hb02 : Below w.heap.size w w2 := (hb01.alloc hb01.size _).grown hg2 (by simp; have := hb01.size; omega) (by intro k hk; have := Option.some.inj hk; have := hb01.size; omega)
  have hl2 : w1.heap.size < w2.heap.size := (Array.getElem?_eq_some_iff.1 hw2).1
  have hlz2 : w.heap.size < w2.heap.size := (Array.getElem?_eq_some_iff.1 hz2).1
  obtain ⟨c0, c1, c2, c3⟩ := row_cells hw2
  obtain ⟨z0, z1, z2, z3⟩ := z_cells hz2
  have f0 := frozen_of_row w2 w.heap.size 0 _ _ hz2
  have f1 := frozen_of_row w2 w.heap.size 1 _ _ hz2
  have f2 := frozen_of_row w2 w.heap.size 2 _ _ hz2
  have f3 := frozen_of_row w2 w.heap.size 3 _ _ hz2
  have HRED := Lib.hid (fun wx hx => reduced_any n wx HN.out (hp.below hx hp.1))
  have HLIT := Lib.hid (fld_lit n)
  have hsame := fun wx => run_same n HN.out wx
  rw [HLIT.out] at HRED
  have HB02 := Lib.hid (And.intro hb02 (And.intro hz2 (And.intro hl2 (And.intro hlz2 (by omega : w1.heap.size ≠ w.heap.size)))))
  clear hz1 hb01 hgl hw2 hs2 hg2 hz2 hb02 hl2 hlz2
  go_wp2_with fail
  go_region_held3 (fun w' => w'.cell? ⟨w1.heap.size, 0, none⟩ = some (.int .u64 (lw n 0 : Int)) ∧ w'.cell? ⟨w1.heap.size, 1, none⟩ = some (.int .u64 (lw n 1 : Int)) ∧ w'.cell? ⟨w1.heap.size, 2, none⟩ = some (.int .u64 (lw n 2 : Int)) ∧ w'.cell? ⟨w1.heap.size, 3, none⟩ = some (.int .u64 (lw n 3 : Int))) (first | exact ⟨c0, c1, c2, c3⟩ | exact ⟨d0, d1, d2, d3⟩ | exact ⟨keep4 HB02.out.2.2.2.2 d0, keep4 HB02.out.2.2.2.2 d1, keep4 HB02.out.2.2.2.2 d2, keep4 HB02.out.2.2.2.2 d3⟩) ((go_at_call 45; refine (HRED.out _ ?_).mono ?_; exact HB02.out.1.drew; rintro e wq ⟨rfl, hbq⟩; have d0 := (hbq.cell (p := ⟨w1.heap.size, 0, none⟩) HB02.out.2.2.1).trans c0; have d1 := (hbq.cell (p := ⟨w1.heap.size, 1, none⟩) HB02.out.2.2.1).trans c1; have d2 := (hbq.cell (p := ⟨w1.heap.size, 2, none⟩) HB02.out.2.2.1).trans c2; have d3 := (hbq.cell (p := ⟨w1.heap.size, 3, none⟩) HB02.out.2.2.1).trans c3; have y0 := (hbq.cell (p := ⟨w.heap.size, 0, none⟩) HB02.out.2.2.2.1).trans z0; have g0 := (hbq.frozen (p := ⟨w.heap.size, 0, none⟩) HB02.out.2.2.2.1).trans f0; have y1 := (hbq.cell (p := ⟨w.heap.size, 1, none⟩) HB02.out.2.2.2.1).trans z1; have g1 := (hbq.frozen (p := ⟨w.heap.size, 1, none⟩) HB02.out.2.2.2.1).trans f1; have y2 := (hbq.cell (p := ⟨w.heap.size, 2, none⟩) HB02.out.2.2.2.1).trans z2; have g2 := (hbq.frozen (p := ⟨w.heap.size, 2, none⟩) HB02.out.2.2.2.1).trans f2; have y3 := (hbq.cell (p := ⟨w.heap.size, 3, none⟩) HB02.out.2.2.2.1).trans z3; have g3 := (hbq.frozen (p := ⟨w.heap.size, 3, none⟩) HB02.out.2.2.2.1).trans f3))
  have hzq : wq.heap[w.heap.size]? = some (.cells Z4 34 (0, 0)) := (hbq.block _ HB02.out.2.2.2.1).trans HB02.out.2.1
  have hbw : Below w.heap.size w wq := HB02.out.1.trans ⟨hbq.os, hbq.tape, hbq.output, hbq.size, fun k hk => hbq.block k (Nat.lt_trans hk HB02.out.2.2.2.1)⟩
  have hrow := set4 hzq rfl (.int .u64 (lw n 0 : Int)) (.int .u64 (lw n 1 : Int)) (.int .u64 (lw n 2 : Int)) (.int .u64 (lw n 3 : Int))
  have hbr := (((hbw.setCell (p := ⟨w.heap.size, 0, none⟩) (Nat.le_refl _) (.int .u64 (lw n 0 : Int))).setCell (p := ⟨w.heap.size, 1, none⟩) (Nat.le_refl _) (.int .u64 (lw n 1 : Int))).setCell (p := ⟨w.heap.size, 2, none⟩) (Nat.le_refl _) (.int .u64 (lw n 2 : Int))).setCell (p := ⟨w.heap.size, 3, none⟩) (Nat.le_refl _) (.int .u64 (lw n 3 : Int))
  rw [← HLIT.out] at hrow
  have HROW := Lib.hid (And.intro hrow hbr)
  clear hrow hbr hzq hbw hbq d0 d1 d2 d3 y0 y1 y2 y3 g0 g1 g2 g3 c0 c1 c2 c3 z0 z1 z2 z3 f0 f1 f2 f3 HB02 HRED hsame
  go_wp2
  refine bodyPost_ret (v := .tuple #[.agg (fldA n), .bool (decide (n < P25n))]) ?_ rfl ⟨by rw [HNN.out], HROW.out.2⟩
  exact results_row_tmp Tryd.results28 _ _ w.heap.size 34 (fldA n) (0, 0) _ rfl HROW.out.1 Tryd.underlying34 rfl (fszN _)

end Go.Proofs.YtcaepcfgeelojaaDoor
