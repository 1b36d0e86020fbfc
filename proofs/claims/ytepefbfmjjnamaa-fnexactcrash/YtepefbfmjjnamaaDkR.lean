/- Disks as arguments of a law: three slices of structs, opened. -/
import Derived.Test.YtepefbfmjjnamaaDkX
import Derived.Test.YtepefbfmjjnamaaDkB
namespace Go.My
open Go.RowKit Go.ChangeShapes Go.WideShapes
set_option linter.unusedVariables false

theorem add_none (b o k : Nat) : (⟨b, o, none⟩ : Addr).add k = ⟨b, o + k, none⟩ := by
  unfold Addr.add
  by_cases h : k = 0
  · subst h; rfl
  · rw [if_neg h]
/-- A slice of structs that came in, opened. -/
theorem argL_open {H : Type} {enc : TypeId × Value → H} {P : Program} {w : World} {sp : Nat → Bool} {held : Bool} {α : Type} [Inhabited α] {t e : TypeId} {c : Nat} {f : α → List Value} {W : α → Prop} {fuel : Nat} {cs : List Value} {x : DataW H × List MemPlace}
    (ht : P.underlying t = some (.slice e)) (hc : P.cellsOf e = c) (hc0 : 0 < c) (hf : ∀ a, (f a).length = c) (hel : ∀ n cs x, DataW.trod enc P w 0 sp held n e cs = some x → ∃ a, cs = f a ∧ W a)
    (h : DataW.trod enc P w 0 sp held fuel t cs = some x) : ∃ v l, cs = [v] ∧ ArgL c f v l w ∧ ∀ a ∈ l, W a := by
  rcases Deep.open_slice ht h with ⟨rfl, _⟩ | ⟨a, len, cap, m, n, D, Pl, rfl, _, hl, hm, hmm, _, hx⟩
  · exact ⟨_, [], rfl, ⟨none, 0, rfl, Nat.le_refl _, Nat.zero_le _, .inl rfl⟩, fun _ h => by cases h⟩
  have hlm : len ≤ m := by rw [hmm]; split <;> omega
  have each : ∀ i, i < len → ∃ y : α, W y ∧ w.cells? 0 (a.add (i * c)) c = some (f y) := by
    intro i hi
    obtain ⟨cs', h1, h2⟩ := hx i (by omega)
    obtain ⟨y, rfl, hy⟩ := hel _ _ _ h2
    exact ⟨y, hy, by rw [hc] at h1; exact h1⟩
  obtain ⟨Y, hY⟩ := Deep.choose_lt each
  refine ⟨_, (List.range len).map Y, rfl, ⟨some a, cap, by rw [List.length_map, List.length_range], by rw [List.length_map, List.length_range]; exact hl, hm, ?_⟩, ?_⟩
  · by_cases h0 : len = 0
    · left; rw [h0]; rfl
    right
    have key : ∀ i, i < len → ∀ j u, (f (Y i))[j]? = some u → w.cell? (a.add (i * c + j)) = some u := by
      intro i hi j u hu
      obtain ⟨_, hlen, hcell⟩ := World.cells?_some (hY i hi).2
      have hj : j < c := by have := (List.getElem?_eq_some_iff.1 hu).1; rw [hf] at this; exact this
      rw [← Deep.add_add, hcell j hj, hu]
    obtain ⟨b, o, s⟩ := a
    have k0 : w.cell? ⟨b, o, s⟩ = some ((f (Y 0))[0]'(by rw [hf]; exact hc0)) := by
      have := key 0 (by omega) 0 _ (List.getElem?_eq_getElem (by rw [hf]; exact hc0))
      rw [Nat.zero_mul] at this
      exact this
    have hs : s = none := by
      cases s with
      | none => rfl
      | some q =>
        exfalso
        unfold World.cell? at k0
        split at k0
        · simp at k0
        · cases k0
    subst hs
    refine ⟨b, o, rfl, World.block_lt_of_cell? _ _ k0, fun i hi j u hu => ?_⟩
    rw [List.length_map, List.length_range] at hi
    rw [List.getElem_map, List.getElem_range] at hu
    have := key i hi j u hu
    rw [add_none] at this
    exact this
  · intro y hy
    obtain ⟨i, hi, rfl⟩ := List.mem_map.1 hy
    exact (hY i (List.mem_range.1 hi)).1

end Go.My
namespace Go.Proofs.Ytepefbfmjjnamaa
open Go.RowKit Go.My Go.Lib Go.ChangeShapes Go.WideShapes
set_option linter.unusedVariables false
set_option maxRecDepth 100000

theorem dk_cells_s : Try.prog.cellsOf 9 = 1 := by kernel_rfl
theorem dk_cells_i : Try.prog.cellsOf 2 = 1 := by kernel_rfl
theorem dk_cells_file : Try.prog.cellsOf 130 = 2 := by kernel_rfl
theorem dk_cells_dop : Try.prog.cellsOf 61 = 4 := by kernel_rfl
theorem dk_cells_files : Try.prog.cellsOf 53 = 1 := by kernel_rfl
theorem dk_cells_dops : Try.prog.cellsOf 54 = 1 := by kernel_rfl
theorem dk_cells_disk : Try.prog.cellsOf 56 = 3 := by kernel_rfl

theorem file_open {H : Type} {enc : TypeId × Value → H} {w : World} {base : Nat} {sp : Nat → Bool} {held : Bool} {fuel : Nat} {cs : List Value} {x : DataW H × List MemPlace} (h : DataW.trod enc Try.prog w base sp held fuel 130 cs = some x) :
    ∃ a : FileT, cs = fileC a ∧ fileW a := by
  obtain ⟨xs, n, _, hx, hl, hn, hf⟩ := DataW.trod_struct Try.underlying130 h
  rw [dk_cells_file] at hl
  match cs, hl with
  | [c0, c1], _ =>
  match xs, hn with
  | [y0, y1], _ =>
    have h0 : DataW.trod enc Try.prog w base sp held n 9 (List.take (Try.prog.cellsOf 9) (List.drop 0 [c0, c1])) = some y0 := by have := hf 0 _ rfl; exact this
    rw [dk_cells_s] at h0
    have g0 : DataW.trod enc Try.prog w base sp held n 9 [c0] = some y0 := h0
    obtain ⟨p, e0, _, wp⟩ := DataW.trod_string Try.underlying9 g0
    have h1 : DataW.trod enc Try.prog w base sp held n 9 (List.take (Try.prog.cellsOf 9) (List.drop 1 [c0, c1])) = some y1 := by have := hf 1 _ rfl; exact this
    rw [dk_cells_s] at h1
    have g1 : DataW.trod enc Try.prog w base sp held n 9 [c1] = some y1 := h1
    obtain ⟨q, e1, _, wq⟩ := DataW.trod_string Try.underlying9 g1
    simp only [List.cons.injEq, and_true] at e0 e1
    obtain rfl := e0
    obtain rfl := e1
    exact ⟨(p, q), rfl, wp, wq⟩
theorem dOp_open {H : Type} {enc : TypeId × Value → H} {w : World} {base : Nat} {sp : Nat → Bool} {held : Bool} {fuel : Nat} {cs : List Value} {x : DataW H × List MemPlace} (h : DataW.trod enc Try.prog w base sp held fuel 61 cs = some x) :
    ∃ a : DOpT, cs = dOpC a ∧ dOpW a := by
  obtain ⟨xs, n, _, hx, hl, hn, hf⟩ := DataW.trod_struct Try.underlying61 h
  rw [dk_cells_dop] at hl
  match cs, hl with
  | [c0, c1, c2, c3], _ =>
  match xs, hn with
  | [y0, y1, y2, y3], _ =>
    have h0 : DataW.trod enc Try.prog w base sp held n 2 (List.take (Try.prog.cellsOf 2) (List.drop 0 [c0, c1, c2, c3])) = some y0 := by have := hf 0 _ rfl; exact this
    rw [dk_cells_i] at h0
    have g0 : DataW.trod enc Try.prog w base sp held n 2 [c0] = some y0 := h0
    obtain ⟨k, e0, _, wk⟩ := DataW.trod_int Try.underlying2 g0
    have h1 : DataW.trod enc Try.prog w base sp held n 9 (List.take (Try.prog.cellsOf 9) (List.drop 1 [c0, c1, c2, c3])) = some y1 := by have := hf 1 _ rfl; exact this
    rw [dk_cells_s] at h1
    have g1 : DataW.trod enc Try.prog w base sp held n 9 [c1] = some y1 := h1
    obtain ⟨p, e1, _, wp⟩ := DataW.trod_string Try.underlying9 g1
    have h2 : DataW.trod enc Try.prog w base sp held n 9 (List.take (Try.prog.cellsOf 9) (List.drop 2 [c0, c1, c2, c3])) = some y2 := by have := hf 2 _ rfl; exact this
    rw [dk_cells_s] at h2
    have g2 : DataW.trod enc Try.prog w base sp held n 9 [c2] = some y2 := h2
    obtain ⟨q, e2, _, wq⟩ := DataW.trod_string Try.underlying9 g2
    have h3 : DataW.trod enc Try.prog w base sp held n 9 (List.take (Try.prog.cellsOf 9) (List.drop 3 [c0, c1, c2, c3])) = some y3 := by have := hf 3 _ rfl; exact this
    rw [dk_cells_s] at h3
    have g3 : DataW.trod enc Try.prog w base sp held n 9 [c3] = some y3 := h3
    obtain ⟨r, e3, _, wr⟩ := DataW.trod_string Try.underlying9 g3
    simp only [List.cons.injEq, and_true] at e0 e1 e2 e3
    obtain rfl := e0
    obtain rfl := e1
    obtain rfl := e2
    obtain rfl := e3
    exact ⟨(k, p, q, r), rfl, wk, wp, wq, wr⟩
theorem disk_open {H : Type} {enc : TypeId × Value → H} {w : World} {sp : Nat → Bool} {held : Bool} {r : Reach} {b0 : Nat} {v : Value} {d : DataW H} {ps : List MemPlace} (hv : Value.okWide Try.prog w r b0 56 v) (h : DataW.Trod enc Try.prog w 0 sp held 56 v d ps) :
    ∃ v1 v2 v3 D, v = .agg #[v1, v2, v3] ∧ DiskArg v1 v2 v3 D w := by
  obtain ⟨cs, rfl, _⟩ := okWide_struct Try.underlying56 hv
  obtain ⟨fuel, hf0⟩ := h
  obtain ⟨l⟩ := cs
  simp only [Value.cells] at hf0
  obtain ⟨xs, n, _, hx, hl, hn, hf⟩ := DataW.trod_struct Try.underlying56 hf0
  rw [dk_cells_disk] at hl
  match l, hl with
  | [c0, c1, c2], _ =>
  match xs, hn with
  | [y0, y1, y2], _ =>
    have h0 : DataW.trod enc Try.prog w 0 sp held n 53 (List.take (Try.prog.cellsOf 53) (List.drop 0 [c0, c1, c2])) = some y0 := by have := hf 0 _ rfl; exact this
    rw [dk_cells_files] at h0
    have g0 : DataW.trod enc Try.prog w 0 sp held n 53 [c0] = some y0 := h0
    obtain ⟨v1, l1, e0, a1, w1⟩ := argL_open (f := fileC) Try.underlying53 dk_cells_file (by decide) fileC_len (fun n cs x h => file_open h) g0
    have h1 : DataW.trod enc Try.prog w 0 sp held n 53 (List.take (Try.prog.cellsOf 53) (List.drop 1 [c0, c1, c2])) = some y1 := by have := hf 1 _ rfl; exact this
    rw [dk_cells_files] at h1
    have g1 : DataW.trod enc Try.prog w 0 sp held n 53 [c1] = some y1 := h1
    obtain ⟨v2, l2, e1, a2, w2⟩ := argL_open (f := fileC) Try.underlying53 dk_cells_file (by decide) fileC_len (fun n cs x h => file_open h) g1
    have h2 : DataW.trod enc Try.prog w 0 sp held n 54 (List.take (Try.prog.cellsOf 54) (List.drop 2 [c0, c1, c2])) = some y2 := by have := hf 2 _ rfl; exact this
    rw [dk_cells_dops] at h2
    have g2 : DataW.trod enc Try.prog w 0 sp held n 54 [c2] = some y2 := h2
    obtain ⟨v3, l3, e2, a3, w3⟩ := argL_open (f := dOpC) Try.underlying54 dk_cells_dop (by decide) dOpC_len (fun n cs x h => dOp_open h) g2
    simp only [List.cons.injEq, and_true] at e0 e1 e2
    obtain rfl := e0
    obtain rfl := e1
    obtain rfl := e2
    exact ⟨c0, c1, c2, ⟨l1, l2, l3⟩, rfl, a1, a2, a3, w1, w2, w3⟩

theorem mem_le_sum (l : List Nat) (a : Nat) (h : a ∈ l) : a ≤ l.sum := by
  induction l with
  | nil => cases h
  | cons b l ih =>
    rw [List.sum_cons]
    rcases List.mem_cons.1 h with rfl | h
    · omega
    · have := ih h; omega
theorem dataSum_fileSum (l : List FileT) : dataSum l ≤ fileSum l := by
  induction l with
  | nil => exact Nat.le_refl _
  | cons a l ih =>
    show a.2.size + dataSum l ≤ (a.1.size + a.2.size) + fileSum l
    omega
/-- What a law's size lets through is short enough for all. -/
theorem fit_of {v1 v2 v3 : Value} {d : DiskT} {w : World} (h : DiskArg v1 v2 v3 d w) (hs : d.sz ≤ 1048576) : d.fit := by
  have hs' : d.live.length + fileSum d.live + (d.safe.length + fileSum d.safe) + (d.ops.length + dOpSum d.ops) ≤ 1048576 := hs
  have f : ∀ l : List FileT, ∀ a ∈ l, a.1.size + a.2.size ≤ fileSum l := fun l a ha => mem_le_sum _ _ (List.mem_map.2 ⟨a, ha, rfl⟩)
  have g : ∀ a ∈ d.ops, a.2.1.size + a.2.2.1.size + a.2.2.2.size ≤ dOpSum d.ops := fun a ha => mem_le_sum _ _ (List.mem_map.2 ⟨a, ha, rfl⟩)
  refine ⟨⟨by omega, by omega, by omega⟩, fun a ha => ?_, fun a ha => ?_, fun a ha => ?_, ?_⟩
  · have := f _ a ha; omega
  · have := f _ a ha; omega
  · have := g a ha; exact ⟨(h.wo a ha).1, by omega, by omega, by omega⟩
  · have := dataSum_fileSum d.live; have := dataSum_fileSum d.safe; omega
theorem DiskArg.below {v1 v2 v3 : Value} {d : DiskT} {w w' : World} (h : DiskArg v1 v2 v3 d w) (hb : Below w.heap.size w w') : DiskArg v1 v2 v3 d w' := ⟨h.live.below hb, h.safe.below hb, h.ops.below hb, h.wl, h.ws, h.wo⟩

end Go.Proofs.Ytepefbfmjjnamaa
