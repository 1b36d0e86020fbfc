/- The program: an element put between others, where there is no room. -/
import Derived.Test.YtepefbfmjjnamaaDkIa
namespace Go.Proofs.Ytepefbfmjjnamaa
open Go.RowKit Go.My Go.Lib
set_option linter.unusedVariables false

set_option maxRecDepth 20000 in
set_option maxHeartbeats 2000000 in
theorem insert_new (B g cap : Nat) (l : List FileT) (i : Nat) (x : FileT) (vb : Nat) (w : World) (h : FilesAt B (.slice (some ⟨g, 0, none⟩) l.length cap) l w) (hBw : B ≤ w.heap.size) (hx : w.heap[vb]? = some (.cells #[.string x.1, .string x.2] 88 (0, 0))) (hi : i < l.length) (hl : l.length ≤ 1048576) (hroom : cap < l.length + 1) :
    Calls Try.prog 122 #[.slice (some ⟨g, 0, none⟩) l.length cap, .int .i64 i, .slice (some ⟨vb, 0, none⟩) 1 1] w fun e w' =>
      ∃ v', e = .returned v' ∧ FilesAt B v' (insL l i x) w' ∧ w.grownBy w' (some g) := by
  obtain ⟨i0, hi0, hz0, hz1, hz2⟩ := info_parts info_File
  have hsz : (Try.prog.info? 88).map (·.size) = some 2 := by rw [hi0]; simp [hz1]
  rcases h.2 with ⟨hv, _⟩ | ⟨g', cap', cur, hv, hB, hg, hnc, hcm, hcs, htk⟩
  · cases hv
  cases hv
  have hglt : g < w.heap.size := (Array.getElem?_eq_some_iff.1 hg).1
  have hvlt : vb < w.heap.size := (Array.getElem?_eq_some_iff.1 hx).1
  obtain ⟨A, hA⟩ : ∃ A, (l.take i).flatMap fileC = A := ⟨_, rfl⟩
  have hAl : A.length = i * 2 := by rw [← hA, flat_len fileC_len, List.length_take]; omega
  obtain ⟨D, hD⟩ : ∃ D, (l.drop i).flatMap fileC = D := ⟨_, rfl⟩
  have hDl : D.length = (l.length - i) * 2 := by rw [← hD, flat_len fileC_len, List.length_drop]
  have hAD : l.flatMap fileC = A ++ D := by rw [← hA, ← hD, ← List.flatMap_append, List.take_append_drop]
  have hat : ∀ j v, (A ++ D)[j]? = some v → w.cell? ⟨g, j, none⟩ = some v := fun j v hj => by
    have hjl : j < (A ++ D).length := (List.getElem?_eq_some_iff.1 hj).1
    rw [List.length_append] at hjl
    rw [World.ownsRow.cellAt h j (by omega), hAD, hj]
  have hAat : ∀ j v, A[j]? = some v → w.cell? ⟨g, j, none⟩ = some v := fun j v hj => hat j v (by rw [List.getElem?_append_left (List.getElem?_eq_some_iff.1 hj).1]; exact hj)
  have hDat : ∀ j v, D[j]? = some v → w.cell? ⟨g, i * 2 + j, none⟩ = some v := fun j v hj => hat _ v (by rw [List.getElem?_append_right (by omega), hAl, show i * 2 + j - i * 2 = j by omega]; exact hj)
  have hD1 : ∀ v ∈ D, v.oneCell' = true := by rw [← hD]; exact flat_one _
  obtain ⟨X, hX⟩ : ∃ X, X = fileC x := ⟨_, rfl⟩
  have hXl : X.length = 2 := by rw [hX]; rfl
  have hX1 : ∀ v ∈ X, v.oneCell' = true := by
    rw [hX]; intro v hv
    simp only [fileC, List.mem_cons, List.not_mem_nil, or_false] at hv
    rcases hv with rfl | rfl <;> rfl
  have hXa : X.toArray = #[.string x.1, .string x.2] := by rw [hX]; rfl
  have hold : (Builtin.firstCells i0.size i (.slice (some ⟨g, 0, none⟩) i cap)).run Try.prog w.drew = .ok A.toArray w.drew := by
    rw [hz1]
    exact run_firstCells_some w.drew 2 i ⟨g, 0, none⟩ i cap A hAl (fun j v hj => by rw [Addr.add_lit, Nat.zero_add]; exact hAat j v hj)
  obtain ⟨G, hG⟩ : ∃ G, G = grownCap w (l.length + 1) cap 88 := ⟨_, rfl⟩
  obtain ⟨Z, hZ⟩ : ∃ Z : Array Value, Z = (Value.agg #[.string ByteArray.empty, .string ByteArray.empty]).cells := ⟨_, rfl⟩
  have hZs : Z.size = 2 := by rw [hZ]; rfl
  obtain ⟨ROW, hROW⟩ : ∃ ROW : Array Value, ROW = A.toArray ++ Builtin.zeroCells Z (l.length + 1 - i) ++ Builtin.zeroCells Z (G - (l.length + 1)) := ⟨_, rfl⟩
  have hrz : ∀ ty, (Builtin.append_ #[24, 3] ty #[.slice (some ⟨g, 0, none⟩) i cap, .int .i64 ((l.length : Int) + 1 - (i : Int))]).run Try.prog w =
      .ok (.slice (some ⟨w.heap.size, 0, none⟩) (l.length + 1) G) (w.drew.alloc (.cells ROW 88)) := fun ty => by
    have hc : cap = l.length := by omega
    have h' := Lib.run_append_grow_zeros w 24 3 ty 88 i0 _ .i64 .i64 Try.underlying24 Try.underlying3 hi0 hz0 (some ⟨g, 0, none⟩) i cap A hold (l.length + 1 - i) (by omega) (by omega) (by omega) (by omega) (by rw [hz2]; omega) (by rw [hz2]; exact growslice_fits (by omega) (by omega))
    rw [show i + (l.length + 1 - i) = l.length + 1 by omega, ← hG, ← hZ, ← hROW] at h'
    rw [show (l.length : Int) + 1 - (i : Int) = ((l.length + 1 - i : Nat) : Int) by omega]
    exact h'
  have hGn : l.length + 1 ≤ G := by rw [hG]; exact grownCap_ge w _ _ _
  have hGm : G ≤ maxLen := by rw [hG]; exact grownCap_le_maxLen w _ _ _ (by unfold maxLen; omega)
  have hRs : ROW.size = G * 2 := by
    rw [hROW]
    simp only [Array.size_append, Builtin.zeroCells, Array.size_map, Array.size_range, hZs, List.size_toArray, hAl]
    omega
  have hRA : ROW.toList.take (i * 2) = A := by
    rw [hROW]
    simp only [Array.toList_append, List.append_assoc]
    rw [List.take_left' (by simpa using hAl)]
  obtain ⟨W1, hW1⟩ : ∃ W1, W1 = w.drew.alloc (.cells ROW 88) := ⟨_, rfl⟩
  have hHs : w.drew.heap.size = w.heap.size := rfl
  have hgW1 : W1.heap[w.heap.size]? = some (.cells ROW 88 (0, 0)) := by rw [hW1]; exact heap_alloc_new w.drew _
  have hb1 : Below w.heap.size w W1 := by
    have b := (Below.refl w.heap.size w).alloc (Nat.le_refl _) (.cells ROW 88)
    rw [hW1]
    exact ⟨b.os, b.tape, b.output, b.size, b.block⟩
  obtain ⟨r1, hr1⟩ : ∃ r1 : List Value, ROW.toList.take (i * 2) ++ X ++ ROW.toList.drop (i * 2 + X.length) = r1 := ⟨_, rfl⟩
  have hRl : ROW.toList.length = G * 2 := by simpa using hRs
  have hr1l : r1.length = G * 2 := by
    rw [← hr1, List.length_append, List.length_append, List.length_take, List.length_drop, hRl]; omega
  obtain ⟨r2, hr2⟩ : ∃ r2 : List Value, r1.take ((i + 1) * 2) ++ D ++ r1.drop ((i + 1) * 2 + D.length) = r2 := ⟨_, rfl⟩
  have hr2e : r2 = (insL l i x).flatMap fileC ++ ROW.toList.drop ((i + 1) * 2 + D.length) := by
    rw [← hr2, ← hr1, ins_new ROW.toList A D X (i * 2) ((i + 1) * 2) hRA (by omega) (by omega), insL_flat, hA, hD, hX]
  have hr2l : r2.length = G * 2 := by
    rw [← hr2, List.length_append, List.length_append, List.length_take, List.length_drop, hr1l]; omega
  have hgo : w.heap.size ≠ g := by omega
  have hgW2 : ∀ W : World, W.heap = (W1.setRow w.heap.size r1.toArray).heap → W.heap[w.heap.size]? = some (.cells r1.toArray 88 (0, 0)) := fun W hW => by rw [hW]; exact setRow_heap W1 w.heap.size _ _ _ _ hgW1
  have hcell : ∀ (W : World), (∀ k, k < w.heap.size → W.heap[k]? = w.heap[k]?) → ∀ k j, k < w.heap.size → W.cell? ⟨k, j, none⟩ = w.cell? ⟨k, j, none⟩ := fun W hW k j hk => World.cell?_of_block (w := w) (a := ⟨k, j, none⟩) (hW k hk)
  have hold1 : ∀ k, k < w.heap.size → W1.heap[k]? = w.heap[k]? := fun k hk => hb1.block k hk
  have hold2 : ∀ k, k < w.heap.size → (W1.setRow w.heap.size r1.toArray).heap[k]? = w.heap[k]? := fun k hk => by rw [setRow_other _ _ _ _ (by omega)]; exact hold1 k hk
  have hcpA : ∀ (W : World), W.heap = W1.heap → ∀ ty dc, (Builtin.copy_ #[24, 24] ty #[.slice (some ⟨w.heap.size, i * 2, none⟩) (l.length + 1 - i) dc, .slice (some ⟨vb, 0, none⟩) 1 1]).run Try.prog W = .ok (goInt (Nat.min 1 (l.length + 1 - i) : Nat)) (W.setRow w.heap.size r1.toArray) := fun W hW ty dc => by
    have hm : Nat.min 1 (l.length + 1 - i) = 1 := by simp only [Nat.min_def]; split <;> omega
    have := run_copy_many (P := Try.prog) W 24 24 ty 88 2 w.heap.size (i * 2) (l.length + 1 - i) dc ⟨vb, 0, none⟩ 1 1 ROW _ X Try.underlying24 hsz (by rw [hW]; exact hgW1) (by rw [hm]; exact hXl) (fun j v hj => by
      rw [Addr.add_lit, Nat.zero_add, hcell W (fun k hk => by rw [hW]; exact hold1 k hk) vb j hvlt, cell_of_row w vb j _ _ (0, 0) hx, ← hXa]
      simpa using hj) (by rw [hRs]; omega) hX1
    rw [hr1] at this
    exact this
  have hcpB : ∀ (W : World), W.heap = (W1.setRow w.heap.size r1.toArray).heap → ∀ ty dc sc, (Builtin.copy_ #[24, 24] ty #[.slice (some ⟨w.heap.size, (i + 1) * 2, none⟩) (l.length - i) dc, .slice (some ⟨g, i * 2, none⟩) (l.length - i) sc]).run Try.prog W = .ok (goInt (Nat.min (l.length - i) (l.length - i) : Nat)) (W.setRow w.heap.size r2.toArray) := fun W hW ty dc sc => by
    have hm : Nat.min (l.length - i) (l.length - i) = l.length - i := by simp only [Nat.min_def]; split <;> omega
    have := run_copy_many (P := Try.prog) W 24 24 ty 88 2 w.heap.size ((i + 1) * 2) (l.length - i) dc ⟨g, i * 2, none⟩ (l.length - i) sc r1.toArray _ D Try.underlying24 hsz (hgW2 W hW) (by rw [hm]; exact hDl) (fun j v hj => by
      rw [Addr.add_lit, hcell W (fun k hk => by rw [hW]; exact hold2 k hk) g _ hglt]
      exact hDat j v hj) (by simp; omega) hD1
    rw [hr2] at this
    exact this
  have HFIN : Hid (∀ W : World, W.heap = ((W1.setRow w.heap.size r1.toArray).setRow w.heap.size r2.toArray).heap → FilesAt B (.slice (some ⟨w.heap.size, 0, none⟩) (l.length + 1) G) (insL l i x) W) := fun W hW => by
    have := rowl_is (B := B) (e := 88) (l := insL l i x) (w := W) (cap := G) fileC_len hBw (by rw [hW]; exact setRow_heap _ w.heap.size _ r2.toArray _ _ (hgW2 _ rfl)) (by rw [insL_len _ _ _ (by omega)]; exact hGn) hGm hr2l hr2e
    rw [insL_len _ _ _ (by omega)] at this
    exact this
  have HG : Hid (∀ W : World, W.os = w.os → W.tape = w.tape → W.output = w.output → W.heap = ((W1.setRow w.heap.size r1.toArray).setRow w.heap.size r2.toArray).heap → w.grownBy W (some g)) := fun W q1 q2 q3 hW => by
    refine ⟨q1, q2, q3, ?_, fun k hk _ => ?_⟩
    · have := hb1.size; rw [hW]; simpa [World.setRow] using this
    · rw [hW, setRow_other _ _ _ _ (by omega)]; exact hold2 k hk
  have HGM := hGm
  unfold maxLen at HGM
  have mixed : (Try.prog).follows .mixedOrders = true := by kernel_rfl
  have hz2' : ¬ ((i : Int) = (l.length : Int)) := by omega
  have hw1 : IntKind.i64.wrap ((i : Int) + 1) = (i : Int) + 1 := IntWalk.i64_in _ (by omega)
  have hbb1 : (0 : Int) ≤ (i : Int) + 1 := by omega
  have hin : i ≤ l.length := by omega
  have htn : ((i : Int) + 1).toNat = i + 1 := by omega
  have hb3 : (i : Int) ≤ (l.length : Int) := by omega
  have hic : i ≤ cap := by omega
  have hw2 : IntKind.i64.wrap ((l.length : Int) + 1) = (l.length : Int) + 1 := IntWalk.i64_in _ (by omega)
  have hw3 : (cap : Int) < (l.length : Int) + 1 := by omega
  have hw4 : IntKind.i64.wrap ((l.length : Int) + 1 - (i : Int)) = (l.length : Int) + 1 - (i : Int) := IntWalk.i64_in _ (by omega)
  have hGi : ¬ (G = i) := by omega
  have hGim : ¬ (G = i + 1) := by omega
  have hci : ¬ (cap = i) := by omega
  subst hW1
  have hE1 : ((w.alloc (.cells ROW 88)).drew).heap = (w.drew.alloc (.cells ROW 88)).heap := rfl
  have hF1 : (((w.alloc (.cells ROW 88)).drew.setRow w.heap.size r1.toArray).drew).heap = ((w.drew.alloc (.cells ROW 88)).setRow w.heap.size r1.toArray).heap := rfl
  clear h hA hAl hD hDl hAD hat hAat hDat hD1 hX hXl hX1 hXa hold hG hZ hZs hROW hRs hRA hr1 hr1l hr2 hr2e hr2l hgo hgW2 hcell hold1 hold2 hb1 hgW1 htk hcs hg hx hcm hB hRl
  go_enter Try.func122, Try.ntmps122
  go_wp2_with (first
    | (at_builtin; refine Lib.wpList_append_run _ rfl _ _ _ _ rfl _ _ rfl rfl _ _ (hrz _) ?_)
    | (at_builtin; refine wpList_copy_runI _ rfl _ _ 24 24 rfl _ _ rfl rfl (hcpA _ hE1 _ _) ?_))
  go_region_law_o (refine step_copy_runI rfl _ _ 24 24 rfl (.slice (some ⟨w.heap.size, (i + 1) * 2, none⟩) (l.length - i) (G - (i + 1))) (.slice (some ⟨g, i * 2, none⟩) (l.length - i) (cap - i)) (by simp [Act.eval, Act.put]) (by simp [Act.eval, Act.put]) (hcpB _ hF1 _ _ _) ?_)
  go_wp2
  go_ret
  exact ⟨_, rfl, HFIN.out _ rfl, HG.out _ rfl rfl rfl rfl⟩

end Go.Proofs.Ytepefbfmjjnamaa
