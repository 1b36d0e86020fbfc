/- The program: an element put between others, where there is room. -/
import Derived.Test.YtepefbfmjjnamaaDkZ
import Derived.Test.YtepefbfmjjnamaaRowD
namespace Go.Proofs.Ytepefbfmjjnamaa
open Go.RowKit Go.My Go.Lib
set_option linter.unusedVariables false

theorem apart_i (g vb : Nat) (w : World) (cs cs' : Array Value) (o lb cb : Nat) (hvb : vb ≠ g) (h1 : w.heap[vb]? = some (.cells cs 88 (0, 0))) (h2 : w.heap[g]? = some (.cells cs' 88 (0, 0))) (h0 : cs'.size ≠ 0) :
    (callFunc 126 #[.slice (some ⟨vb, 0, none⟩) 1 1, .slice (some ⟨g, o, none⟩) lb cb]).run Try.prog w = .ok (.value (.bool false)) w := by
  rw [run_callFunc_extern Try.func126 (by kernel_rfl) (by kernel_rfl) (by kernel_rfl) (e := Extern.SlicesOverlaps.overlaps #[24, 24] #[4]) (by kernel_rfl),
    Lib.run_overlaps_apart w 24 4 88 Try.underlying24 2 (fun w => by kernel_rfl) ⟨vb, 0, none⟩ ⟨g, o, none⟩ 1 1 lb cb hvb 88 88 cs.size cs'.size (by simp [World.shape?, h1]) (by simp [World.shape?, h2]) h0 (by simp [World.frozen?, h1]) (by simp [World.frozen?, h1])]
  rfl

set_option maxRecDepth 20000 in
set_option maxHeartbeats 2000000 in
theorem insert_in (B g cap : Nat) (l : List FileT) (i : Nat) (x : FileT) (vb : Nat) (w : World) (h : FilesAt B (.slice (some ⟨g, 0, none⟩) l.length cap) l w) (hvb : vb ≠ g) (hx : w.heap[vb]? = some (.cells #[.string x.1, .string x.2] 88 (0, 0))) (hi : i < l.length) (hl : l.length ≤ 1048576) (hroom : l.length + 1 ≤ cap) :
    Calls Try.prog 122 #[.slice (some ⟨g, 0, none⟩) l.length cap, .int .i64 i, .slice (some ⟨vb, 0, none⟩) 1 1] w fun e w' =>
      e = .returned (.slice (some ⟨g, 0, none⟩) (l.length + 1) cap) ∧ FilesAt B (.slice (some ⟨g, 0, none⟩) (l.length + 1) cap) (insL l i x) w' ∧ w.grownBy w' (some g) := by
  have hsz : (Try.prog.info? 88).map (·.size) = some 2 := by
    obtain ⟨i0, hi0, hz0, hz1, hz2⟩ := info_parts info_File
    rw [hi0]; simp [hz1]
  rcases h.2 with ⟨hv, _⟩ | ⟨g', cap', cur, hv, hB, hg, hnc, hcm, hcs, htk⟩
  · cases hv
  cases hv
  have hcl : cur.toList.length = cap * 2 := by simpa using hcs
  have HA : Hid (cur.toList.take (i * 2) = (l.take i).flatMap fileC) := by
    show _ = _
    have e : l.flatMap fileC = (l.take i).flatMap fileC ++ (l.drop i).flatMap fileC := by rw [← List.flatMap_append, List.take_append_drop]
    have e2 : cur.toList.take (i * 2) = (cur.toList.take (l.length * 2)).take (i * 2) := by rw [List.take_take, Nat.min_eq_left (by omega)]
    rw [e2, htk, e, List.take_left' (by rw [flat_len fileC_len, List.length_take]; omega)]
  obtain ⟨D, hD⟩ : ∃ D, (l.drop i).flatMap fileC = D := ⟨_, rfl⟩
  have hDl : D.length = (l.length - i) * 2 := by rw [← hD, flat_len fileC_len, List.length_drop]
  have hDat : ∀ j v, D[j]? = some v → w.cell? ⟨g, i * 2 + j, none⟩ = some v := fun j v hj => by
    have hjl : j < D.length := (List.getElem?_eq_some_iff.1 hj).1
    have e : (l.flatMap fileC)[i * 2 + j]? = some v := by
      have e1 : l.flatMap fileC = (l.take i).flatMap fileC ++ D := by rw [← hD, ← List.flatMap_append, List.take_append_drop]
      have e3 : ((l.take i).flatMap fileC).length = i * 2 := by rw [flat_len fileC_len, List.length_take]; omega
      rw [e1, List.getElem?_append_right (by omega), e3, show i * 2 + j - i * 2 = j by omega]
      exact hj
    rw [World.ownsRow.cellAt h (i * 2 + j) (by omega), e]
  have hD1 : ∀ v ∈ D, v.oneCell' = true := by rw [← hD]; exact flat_one _
  obtain ⟨X, hX⟩ : ∃ X, X = fileC x := ⟨_, rfl⟩
  have hXl : X.length = 2 := by rw [hX]; rfl
  have hX1 : ∀ v ∈ X, v.oneCell' = true := by
    rw [hX]; intro v hv
    simp only [fileC, List.mem_cons, List.not_mem_nil, or_false] at hv
    rcases hv with rfl | rfl <;> rfl
  have hXa : X.toArray = #[.string x.1, .string x.2] := by rw [hX]; rfl
  obtain ⟨r1, hr1⟩ : ∃ r1 : List Value, cur.toList.take ((i + 1) * 2) ++ D ++ cur.toList.drop ((i + 1) * 2 + D.length) = r1 := ⟨_, rfl⟩
  have hr1l : r1.length = cap * 2 := by
    rw [← hr1, List.length_append, List.length_append, List.length_take, List.length_drop, hcl]; omega
  obtain ⟨r2, hr2⟩ : ∃ r2 : List Value, r1.take (i * 2) ++ X ++ r1.drop (i * 2 + X.length) = r2 := ⟨_, rfl⟩
  have hr2e : r2 = (insL l i x).flatMap fileC ++ cur.toList.drop ((i + 1) * 2 + D.length) := by
    rw [← hr2, ← hr1, ins_shift cur.toList _ D X _ (i * 2) ((i + 1) * 2) HA.out (by omega) (by omega), insL_flat, hD, hX]
  have hr2l : r2.length = cap * 2 := by
    rw [← hr2, List.length_append, List.length_append, List.length_take, List.length_drop, hr1l]; omega
  obtain ⟨W1, hW1⟩ : ∃ W1, W1 = w.drew.setRow g r1.toArray := ⟨_, rfl⟩
  have hgW1 : W1.heap[g]? = some (.cells r1.toArray 88 (0, 0)) := by rw [hW1]; exact setRow_heap w.drew g cur _ _ _ hg
  have hxW1 : W1.heap[vb]? = some (.cells #[.string x.1, .string x.2] 88 (0, 0)) := by rw [hW1, setRow_other _ _ _ _ hvb]; exact hx
  have HFIN : Hid (FilesAt B (.slice (some ⟨g, 0, none⟩) (l.length + 1) cap) (insL l i x) (W1.setRow g r2.toArray)) := by
    show FilesAt _ _ _ _
    have := rowl_is (B := B) (e := 88) (l := insL l i x) fileC_len hB (setRow_heap W1 g _ r2.toArray _ _ hgW1) (by rw [insL_len _ _ _ (by omega)]; exact hroom) hcm hr2l hr2e
    rw [insL_len _ _ _ (by omega)] at this
    exact this
  have HG : Hid (w.grownBy (W1.setRow g r2.toArray) (some g)) := by show w.grownBy _ _; rw [hW1]; exact grw_setRow (grw_setRow (grw_drew (grw_refl w _)) _) _
  have hcp1 : ∀ ty dc sc, (Builtin.copy_ #[24, 24] ty #[.slice (some ⟨g, (i + 1) * 2, none⟩) (l.length - i) dc, .slice (some ⟨g, i * 2, none⟩) (l.length + 1 - i) sc]).run Try.prog w.drew = .ok (goInt (Nat.min (l.length + 1 - i) (l.length - i) : Nat)) W1 := fun ty dc sc => by
    have hm : Nat.min (l.length + 1 - i) (l.length - i) = l.length - i := by simp only [Nat.min_def]; split <;> omega
    have := run_copy_many (P := Try.prog) w.drew 24 24 ty 88 2 g ((i + 1) * 2) (l.length - i) dc ⟨g, i * 2, none⟩ (l.length + 1 - i) sc cur _ D Try.underlying24 hsz hg (by rw [hm]; exact hDl) (fun j v hj => by rw [Addr.add_lit]; exact hDat j v hj) (by rw [hDl, hcs]; omega) hD1
    rw [hr1, ← hW1] at this
    exact this
  have hcp2 : ∀ (W : World), W.heap = W1.heap → ∀ ty dc, (Builtin.copy_ #[24, 24] ty #[.slice (some ⟨g, i * 2, none⟩) (l.length + 1 - i) dc, .slice (some ⟨vb, 0, none⟩) 1 1]).run Try.prog W = .ok (goInt (Nat.min 1 (l.length + 1 - i) : Nat)) (W.setRow g r2.toArray) := fun W hW ty dc => by
    have hm : Nat.min 1 (l.length + 1 - i) = 1 := by simp only [Nat.min_def]; split <;> omega
    have := run_copy_many (P := Try.prog) W 24 24 ty 88 2 g (i * 2) (l.length + 1 - i) dc ⟨vb, 0, none⟩ 1 1 r1.toArray _ X Try.underlying24 hsz (by rw [hW]; exact hgW1) (by rw [hm]; exact hXl) (fun j v hj => by
      rw [Addr.add_lit, Nat.zero_add, cell_of_row W vb j _ _ (0, 0) (by rw [hW]; exact hxW1), ← hXa]
      simpa using hj) (by simp; omega) hX1
    rw [hr2] at this
    exact this
  have hov : ∀ lb cb, (callFunc 126 #[.slice (some ⟨vb, 0, none⟩) 1 1, .slice (some ⟨g, (i + 1) * 2, none⟩) lb cb]).run Try.prog w = .ok (.value (.bool false)) w := fun lb cb => apart_i g vb w _ _ _ lb cb hvb hx hg (by rw [hcs]; omega)
  have mixed : (Try.prog).follows .mixedOrders = true := by kernel_rfl
  have HCM := hcm
  unfold maxLen at HCM
  have hz2 : ¬ ((i : Int) = (l.length : Int)) := by omega
  have hw1 : IntKind.i64.wrap ((i : Int) + 1) = (i : Int) + 1 := IntWalk.i64_in _ (by omega)
  have hb1 : (0 : Int) ≤ (i : Int) + 1 := by omega
  have hin : i ≤ l.length := by omega
  have htn : ((i : Int) + 1).toNat = i + 1 := by omega
  have hb2 : ¬ (cap = i + 1) := by omega
  have hb3 : (i : Int) ≤ (l.length : Int) + 1 := by omega
  have hb4 : ¬ (cap = i) := by omega
  have hw2 : IntKind.i64.wrap ((l.length : Int) + 1) = (l.length : Int) + 1 := IntWalk.i64_in _ (by omega)
  have hw3 : ¬ ((cap : Int) < (l.length : Int) + 1) := by omega
  clear h hD hDl hDat hD1 hX hXl hX1 hXa hr1 hr1l hr2 hr2e hr2l hW1 hgW1 hxW1 htk hcs hcl hg hx hcm hB
  go_enter Try.func122, Try.ntmps122
  go_wp2_with (simp only [hov])
  go_region_law_o (refine step_copy_runI rfl _ _ 24 24 rfl _ _ (by simp [Act.eval, Act.put]) (by simp [Act.eval, Act.put]) (hcp1 _ _ _) ?_)
  go_wp2_with (at_builtin; refine wpList_copy_runI _ rfl _ _ 24 24 rfl _ _ rfl rfl (hcp2 _ rfl _ _) ?_)
  go_ret
  exact ⟨rfl, HFIN.out, HG.out⟩

end Go.Proofs.Ytepefbfmjjnamaa
