/- A step of the program's ladder. -/
import Derived.Test.YtdhfddeghnoecaaDoorStpA
import Derived.Deep.Cut
namespace Go.Proofs.YtdhfddeghnoecaaDoor
open Go.RowKit Go.My Go.Lib
set_option linter.unusedVariables false

set_option maxRecDepth 100000 in
set_option maxHeartbeats 8000000 in
theorem stepped_let (ax az bx bz u s d ss dd g X gc gs Z bm l bp r p q XX qq ZZ : Nat) (w : World) (h1 : ax < P25n) (h2 : az < P25n) (h3 : bx < P25n) (h4 : bz < P25n) (h5 : u < P25n) (hp : TabP w)
    (es : s = fAd ax az) (ed : d = fSb ax az) (ess : ss = fMu s s) (edd : dd = fMu d d) (eg : g = fSb ss dd) (eX : X = fMu ss dd) (egc : gc = fMu g 121665) (egs : gs = fAd ss gc) (eZ : Z = fMu g gs) (ebm : bm = fSb bx bz) (el : l = fMu bm s) (ebp : bp = fAd bx bz) (er : r = fMu bp d) (ep : p = fAd l r) (eq : q = fSb l r) (eXX : XX = fMu p p) (eqq : qq = fMu q q) (eZZ : ZZ = fMu u qq) :
    Calls Tryd.prog 67 #[.agg (ptA ax az), .agg (ptA bx bz), .agg (fldA u)] w fun e w' => e = .returned (.tuple #[.agg (ptA X Z), .agg (ptA XX ZZ)]) ∧ Below w.heap.size w w' := by
  have Bax := Lib.hid h1
  have Baz := Lib.hid h2
  have Bbx := Lib.hid h3
  have Bbz := Lib.hid h4
  have Bu := Lib.hid h5
  have Es := Lib.hid es
  have Bs : Hid (s < P25n) := by show _ < _; rw [es]; exact fAd_lt _ _
  have Ed := Lib.hid ed
  have Bd : Hid (d < P25n) := by show _ < _; rw [ed]; exact fSb_lt _ _
  have Ess := Lib.hid ess
  have Bss : Hid (ss < P25n) := by show _ < _; rw [ess]; exact fMu_lt _ _
  have Edd := Lib.hid edd
  have Bdd : Hid (dd < P25n) := by show _ < _; rw [edd]; exact fMu_lt _ _
  have Eg := Lib.hid eg
  have Bg : Hid (g < P25n) := by show _ < _; rw [eg]; exact fSb_lt _ _
  have EX := Lib.hid eX
  have BX : Hid (X < P25n) := by show _ < _; rw [eX]; exact fMu_lt _ _
  have Egc := Lib.hid egc
  have Bgc : Hid (gc < P25n) := by show _ < _; rw [egc]; exact fMu_lt _ _
  have Egs := Lib.hid egs
  have Bgs : Hid (gs < P25n) := by show _ < _; rw [egs]; exact fAd_lt _ _
  have EZ := Lib.hid eZ
  have BZ : Hid (Z < P25n) := by show _ < _; rw [eZ]; exact fMu_lt _ _
  have Ebm := Lib.hid ebm
  have Bbm : Hid (bm < P25n) := by show _ < _; rw [ebm]; exact fSb_lt _ _
  have El := Lib.hid el
  have Bl : Hid (l < P25n) := by show _ < _; rw [el]; exact fMu_lt _ _
  have Ebp := Lib.hid ebp
  have Bbp : Hid (bp < P25n) := by show _ < _; rw [ebp]; exact fAd_lt _ _
  have Er := Lib.hid er
  have Br : Hid (r < P25n) := by show _ < _; rw [er]; exact fMu_lt _ _
  have Ep := Lib.hid ep
  have Bp : Hid (p < P25n) := by show _ < _; rw [ep]; exact fAd_lt _ _
  have Eq := Lib.hid eq
  have Bq : Hid (q < P25n) := by show _ < _; rw [eq]; exact fSb_lt _ _
  have EXX := Lib.hid eXX
  have BXX : Hid (XX < P25n) := by show _ < _; rw [eXX]; exact fMu_lt _ _
  have Eqq := Lib.hid eqq
  have Bqq : Hid (qq < P25n) := by show _ < _; rw [eqq]; exact fMu_lt _ _
  have EZZ := Lib.hid eZZ
  have BZZ : Hid (ZZ < P25n) := by show _ < _; rw [eZZ]; exact fMu_lt _ _
  have B121665 : Hid (121665 < P25n) := by show _ < _; decide
  clear h1 h2 h3 h4 h5 es ed ess edd eg eX egc egs eZ ebm el ebp er ep eq eXX eqq eZZ
  go_enter Tryd.func67, Tryd.ntmps67
  go_upto_region 1 with (fail)
  have hB : Below w.heap.size w (((((w.alloc (.cells (ptA ax az) 81)).alloc (.cells (ptA bx bz) 81)).alloc (.cells (fldA u) 60)).alloc (.cells Z8 81)).alloc (.cells Z8 81)) := ((((((Below.refl _ _).alloc (Nat.le_refl _) _)).alloc (by simp) _).alloc (by simp; omega) _).alloc (by simp; omega) _).alloc (by simp; omega) _
  have fax := ((((FldAt.box_x w ax az 81).past (.cells (ptA bx bz) 81)).past (.cells (fldA u) 60)).past (.cells Z8 81)).past (.cells Z8 81)
  have faz := ((((FldAt.box_z w ax az 81).past (.cells (ptA bx bz) 81)).past (.cells (fldA u) 60)).past (.cells Z8 81)).past (.cells Z8 81)
  have fbx := (((FldAt.box_x (w.alloc (.cells (ptA ax az) 81)) bx bz 81).past (.cells (fldA u) 60)).past (.cells Z8 81)).past (.cells Z8 81)
  have fbz := (((FldAt.box_z (w.alloc (.cells (ptA ax az) 81)) bx bz 81).past (.cells (fldA u) 60)).past (.cells Z8 81)).past (.cells Z8 81)
  have fu := ((FldAt.box ((w.alloc (.cells (ptA ax az) 81)).alloc (.cells (ptA bx bz) 81)) u 60).past (.cells Z8 81)).past (.cells Z8 81)
  have h6 : Blk (w.heap.size + 1 + 1 + 1) Z8 81 (((((w.alloc (.cells (ptA ax az) 81)).alloc (.cells (ptA bx bz) 81)).alloc (.cells (fldA u) 60)).alloc (.cells Z8 81)).alloc (.cells Z8 81)) := by
    unfold Blk
    rw [Below.heap_alloc _ _ _ (by simp)]
    have := heap_alloc_new (((w.alloc (.cells (ptA ax az) 81)).alloc (.cells (ptA bx bz) 81)).alloc (.cells (fldA u) 60)) (.cells Z8 81)
    simpa using this
  have h7 : Blk (w.heap.size + 1 + 1 + 1 + 1) Z8 81 (((((w.alloc (.cells (ptA ax az) 81)).alloc (.cells (ptA bx bz) 81)).alloc (.cells (fldA u) 60)).alloc (.cells Z8 81)).alloc (.cells Z8 81)) := by
    unfold Blk
    have := heap_alloc_new ((((w.alloc (.cells (ptA ax az) 81)).alloc (.cells (ptA bx bz) 81)).alloc (.cells (fldA u) 60)).alloc (.cells Z8 81)) (.cells Z8 81)
    simpa using this
  have ht : TabP (((((w.alloc (.cells (ptA ax az) 81)).alloc (.cells (ptA bx bz) 81)).alloc (.cells (fldA u) 60)).alloc (.cells Z8 81)).alloc (.cells Z8 81)) := hp.below hB hp.1
  have hM : w.heap.size + 1 + 1 + 1 + 1 + 1 ≤ (((((w.alloc (.cells (ptA ax az) 81)).alloc (.cells (ptA bx bz) 81)).alloc (.cells (fldA u) 60)).alloc (.cells Z8 81)).alloc (.cells Z8 81)).heap.size := by simp
  have HN := Lib.hid (show w.heap.size + 1 + 1 + 1 < w.heap.size + 1 + 1 + 1 + 1 + 1 ∧ w.heap.size + 1 + 1 + 1 + 1 < w.heap.size + 1 + 1 + 1 + 1 + 1 ∧ w.heap.size + 1 + 1 ≠ w.heap.size + 1 + 1 + 1 ∧ w.heap.size + 1 + 1 ≠ w.heap.size + 1 + 1 + 1 + 1 ∧ w.heap.size + 1 + 1 + 1 ≠ w.heap.size + 1 + 1 + 1 + 1 ∧ 0 ≠ w.heap.size + 1 + 1 + 1 ∧ 0 ≠ w.heap.size + 1 + 1 + 1 + 1 ∧ w.heap.size ≤ w.heap.size + 1 + 1 + 1 ∧ w.heap.size ≤ w.heap.size + 1 + 1 + 1 + 1 by have := hp.1; omega)
  clear hp
  simp only [World.size_alloc] at fbx fbz fu
  generalize (((((w.alloc (.cells (ptA ax az) 81)).alloc (.cells (ptA bx bz) 81)).alloc (.cells (fldA u) 60)).alloc (.cells Z8 81)).alloc (.cells Z8 81)) = x0 at *
  generalize w.heap.size + 1 + 1 + 1 + 1 + 1 = M at *
  generalize w.heap.size + 1 + 1 + 1 + 1 = g7 at *
  generalize w.heap.size + 1 + 1 + 1 = g6 at *
  generalize w.heap.size + 1 + 1 = gu at *
  generalize w.heap.size + 1 = gb at *
  obtain ⟨ga, hga⟩ : ∃ g, g = w.heap.size := ⟨_, rfl⟩
  rw [← hga] at fax faz ⊢
  have HGA := Lib.hid hga
  clear hga
  go_upto_region 1 with (fail)
  refine region_all 14 (kdAt [.val (.pointer (some ⟨ga, 0, none⟩)), .val (.agg (fldA ax)), .val (.pointer (some ⟨ga, 4, none⟩)), .val (.agg (fldA az)), .val (.agg (fldA s)), .val (.pointer (some ⟨ga, 0, none⟩)), .val (.agg (fldA ax)), .val (.pointer (some ⟨ga, 4, none⟩)), .val (.agg (fldA az)), .val (.agg (fldA d)), .new 60 Z4, .new 60 Z4, .put 10 60 (fldA s), .put 11 60 (fldA d)]) [some 18, some 19, some 20, some 21, some 22, some 23, some 24, some 25, some 26, some 27, some 8, some 9, none, none] (by kernel_rfl) rfl (by kernel_rfl) (by kernel_rfl) (by kernel_rfl) (by kernel_rfl) ?_ ?_
  · repeat refine allS ?_ ?_
    · exact all0
    · exact stepField (.pointer (some ⟨ga, 0, none⟩)) rfl rfl rfl rfl (src_old (by kernel_rfl) rfl) (fun w => fx _ w)
    · exact stepLoad (.pointer (some ⟨ga, 0, none⟩)) rfl rfl rfl rfl (src_new 0 (by decide) rfl rfl (by kernel_rfl)) (fun w hk => FldAt.ld (fax.below (hk.below (nh0 rfl))))
    · exact stepField (.pointer (some ⟨ga, 0, none⟩)) rfl rfl rfl rfl (src_old (by kernel_rfl) rfl) (fun w => fz _ w)
    · exact stepLoad (.pointer (some ⟨ga, 4, none⟩)) rfl rfl rfl rfl (src_new 2 (by decide) rfl rfl (by kernel_rfl)) (fun w hk => FldAt.ld (faz.below (hk.below (nh0 rfl))))
    · exact stepCall (ks := [19, 21]) [.agg (fldA ax), .agg (fldA az)] rfl rfl rfl rfl cfPlus rfl (src2 (src_new 1 (by decide) rfl rfl (by kernel_rfl)) (src_new 3 (by decide) rfl rfl (by kernel_rfl))) (fun w hk => fAdd_any ax az s w Es.out Bax.out Baz.out (ht.below (hk.below (nh0 rfl)) ht.1))
    · exact stepField (.pointer (some ⟨ga, 0, none⟩)) rfl rfl rfl rfl (src_old (by kernel_rfl) rfl) (fun w => fx _ w)
    · exact stepLoad (.pointer (some ⟨ga, 0, none⟩)) rfl rfl rfl rfl (src_new 5 (by decide) rfl rfl (by kernel_rfl)) (fun w hk => FldAt.ld (fax.below (hk.below (nh0 rfl))))
    · exact stepField (.pointer (some ⟨ga, 0, none⟩)) rfl rfl rfl rfl (src_old (by kernel_rfl) rfl) (fun w => fz _ w)
    · exact stepLoad (.pointer (some ⟨ga, 4, none⟩)) rfl rfl rfl rfl (src_new 7 (by decide) rfl rfl (by kernel_rfl)) (fun w hk => FldAt.ld (faz.below (hk.below (nh0 rfl))))
    · exact stepCall (ks := [24, 26]) [.agg (fldA ax), .agg (fldA az)] rfl rfl rfl rfl cfMinus rfl (src2 (src_new 6 (by decide) rfl rfl (by kernel_rfl)) (src_new 8 (by decide) rfl rfl (by kernel_rfl))) (fun w hk => fSub_any ax az d w Ed.out Bax.out Baz.out (ht.below (hk.below (nh0 rfl)) ht.1))
    · exact stepNew rfl rfl rfl rfl alF
    · exact stepNew rfl rfl rfl rfl alF
    · exact stepPut (Z := Z4) (d := 8) (k := 22) rfl rfl rfl rfl rfl (by decide) rfl (by kernel_rfl) rfl (zszN s) (src_new 4 (by decide) rfl rfl (by kernel_rfl)) (fszN s) (oneN s) (uniq_of rfl)
    · exact stepPut (Z := Z4) (d := 9) (k := 27) rfl rfl rfl rfl rfl (by decide) rfl (by kernel_rfl) rfl (zszN d) (src_new 9 (by decide) rfl rfl (by kernel_rfl)) (fszN d) (oneN d) (uniq_of rfl)
  intro v x1 hok hk
  replace hk := hk.all
  have v0 := okVal hok (j := 0) rfl rfl
  have v1 := okVal hok (j := 1) rfl rfl
  have v2 := okVal hok (j := 2) rfl rfl
  have v3 := okVal hok (j := 3) rfl rfl
  have v4 := okVal hok (j := 4) rfl rfl
  have v5 := okVal hok (j := 5) rfl rfl
  have v6 := okVal hok (j := 6) rfl rfl
  have v7 := okVal hok (j := 7) rfl rfl
  have v8 := okVal hok (j := 8) rfl rfl
  have v9 := okVal hok (j := 9) rfl rfl
  obtain ⟨g8, v10, k8, l8⟩ := okRowB hok (i := 12) (j := 10) rfl rfl rfl rfl
  obtain ⟨g9, v11, k9, l9⟩ := okRowB hok (i := 13) (j := 11) rfl rfl rfl rfl
  have n8_9 := okNe hok (i := 10) (j := 11) rfl rfl rfl rfl (by decide) v10 v11
  clear hok
  simp only [putL, Nat.zero_add, Nat.reduceAdd, v0, v1, v2, v3, v4, v5, v6, v7, v8, v9, v10, v11, Act.put, List.setIfInBounds_toArray, List.set_cons_zero, List.set_cons_succ]
  clear v0 v1 v2 v3 v4 v5 v6 v7 v8 v9 v10 v11
  replace l8 := Nat.le_trans hM l8
  replace l9 := Nat.le_trans hM l9
  replace fax := fax.below (hk.below (nh0 rfl))
  replace faz := faz.below (hk.below (nh0 rfl))
  replace fbx := fbx.below (hk.below (nh0 rfl))
  replace fbz := fbz.below (hk.below (nh0 rfl))
  replace fu := fu.below (hk.below (nh0 rfl))
  replace h6 := h6.below (hk.below (nh0 rfl))
  replace h7 := h7.below (hk.below (nh0 rfl))
  replace ht := ht.below (hk.below (nh0 rfl)) ht.1
  have f8 := FldAt.blk k8
  clear k8
  have f9 := FldAt.blk k9
  clear k9
  replace hM := Nat.le_trans hM hk.size
  replace hB := hB.trans ((hk.below (nh0 rfl)).mono hB.size)
  clear hk
  go_upto_region 2 with (fail)
  refine region_all 10 (kdAt [.val (.agg (fldA s)), .val (.agg (fldA s)), .val (.agg (fldA ss)), .val (.agg (fldA d)), .val (.agg (fldA d)), .val (.agg (fldA dd)), .new 60 Z4, .new 60 Z4, .put 6 60 (fldA ss), .put 7 60 (fldA dd)]) [some 28, some 29, some 30, some 31, some 32, some 33, some 10, some 11, none, none] (by kernel_rfl) rfl (by kernel_rfl) (by kernel_rfl) (by kernel_rfl) (by kernel_rfl) ?_ ?_
  · repeat refine allS ?_ ?_
    · exact all0
    · exact stepLoad (.pointer (some ⟨g8, 0, none⟩)) rfl rfl rfl rfl (src_old (by kernel_rfl) rfl) (fun w hk => FldAt.ld (f8.below (hk.below (nh0 rfl))))
    · exact stepLoad (.pointer (some ⟨g8, 0, none⟩)) rfl rfl rfl rfl (src_old (by kernel_rfl) rfl) (fun w hk => FldAt.ld (f8.below (hk.below (nh0 rfl))))
    · exact stepCall (ks := [28, 29]) [.agg (fldA s), .agg (fldA s)] rfl rfl rfl rfl cfTimes rfl (src2 (src_new 0 (by decide) rfl rfl (by kernel_rfl)) (src_new 1 (by decide) rfl rfl (by kernel_rfl))) (fun w hk => fMul_any s s ss w Ess.out Bs.out Bs.out (ht.below (hk.below (nh0 rfl)) ht.1))
    · exact stepLoad (.pointer (some ⟨g9, 0, none⟩)) rfl rfl rfl rfl (src_old (by kernel_rfl) rfl) (fun w hk => FldAt.ld (f9.below (hk.below (nh0 rfl))))
    · exact stepLoad (.pointer (some ⟨g9, 0, none⟩)) rfl rfl rfl rfl (src_old (by kernel_rfl) rfl) (fun w hk => FldAt.ld (f9.below (hk.below (nh0 rfl))))
    · exact stepCall (ks := [31, 32]) [.agg (fldA d), .agg (fldA d)] rfl rfl rfl rfl cfTimes rfl (src2 (src_new 3 (by decide) rfl rfl (by kernel_rfl)) (src_new 4 (by decide) rfl rfl (by kernel_rfl))) (fun w hk => fMul_any d d dd w Edd.out Bd.out Bd.out (ht.below (hk.below (nh0 rfl)) ht.1))
    · exact stepNew rfl rfl rfl rfl alF
    · exact stepNew rfl rfl rfl rfl alF
    · exact stepPut (Z := Z4) (d := 10) (k := 30) rfl rfl rfl rfl rfl (by decide) rfl (by kernel_rfl) rfl (zszN ss) (src_new 2 (by decide) rfl rfl (by kernel_rfl)) (fszN ss) (oneN ss) (uniq_of rfl)
    · exact stepPut (Z := Z4) (d := 11) (k := 33) rfl rfl rfl rfl rfl (by decide) rfl (by kernel_rfl) rfl (zszN dd) (src_new 5 (by decide) rfl rfl (by kernel_rfl)) (fszN dd) (oneN dd) (uniq_of rfl)
  intro v x2 hok hk
  replace hk := hk.all
  have v0 := okVal hok (j := 0) rfl rfl
  have v1 := okVal hok (j := 1) rfl rfl
  have v2 := okVal hok (j := 2) rfl rfl
  have v3 := okVal hok (j := 3) rfl rfl
  have v4 := okVal hok (j := 4) rfl rfl
  have v5 := okVal hok (j := 5) rfl rfl
  obtain ⟨g10, v6, k10, l10⟩ := okRowB hok (i := 8) (j := 6) rfl rfl rfl rfl
  obtain ⟨g11, v7, k11, l11⟩ := okRowB hok (i := 9) (j := 7) rfl rfl rfl rfl
  have n10_11 := okNe hok (i := 6) (j := 7) rfl rfl rfl rfl (by decide) v6 v7
  clear hok
  simp only [putL, Nat.zero_add, Nat.reduceAdd, v0, v1, v2, v3, v4, v5, v6, v7, Act.put, List.setIfInBounds_toArray, List.set_cons_zero, List.set_cons_succ]
  clear v0 v1 v2 v3 v4 v5 v6 v7
  clear fax
  clear faz
  replace l10 := Nat.le_trans hM l10
  replace l11 := Nat.le_trans hM l11
  replace fbx := fbx.below (hk.below (nh0 rfl))
  replace fbz := fbz.below (hk.below (nh0 rfl))
  replace fu := fu.below (hk.below (nh0 rfl))
  replace h6 := h6.below (hk.below (nh0 rfl))
  replace h7 := h7.below (hk.below (nh0 rfl))
  replace ht := ht.below (hk.below (nh0 rfl)) ht.1
  replace f8 := f8.below (hk.below (nh0 rfl))
  replace f9 := f9.below (hk.below (nh0 rfl))
  have f10 := FldAt.blk k10
  clear k10
  have f11 := FldAt.blk k11
  clear k11
  replace hM := Nat.le_trans hM hk.size
  replace hB := hB.trans ((hk.below (nh0 rfl)).mono hB.size)
  clear hk
  go_upto_region 3 with (fail)
  refine region_seq 5 (kdAt [.val (.agg (fldA ss)), .val (.agg (fldA dd)), .val (.agg (fldA g)), .new 60 Z4, .put 3 60 (fldA g)]) [some 34, some 35, some 36, some 12, none] (by decide) (by kernel_rfl) (by kernel_rfl) (by kernel_rfl) (by kernel_rfl) ?_ ?_
  · repeat refine allS ?_ ?_
    · exact all0
    · exact stepLoad (.pointer (some ⟨g10, 0, none⟩)) rfl rfl rfl rfl (src_old (by kernel_rfl) rfl) (fun w hk => FldAt.ld (f10.below (hk.below (nh0 rfl))))
    · exact stepLoad (.pointer (some ⟨g11, 0, none⟩)) rfl rfl rfl rfl (src_old (by kernel_rfl) rfl) (fun w hk => FldAt.ld (f11.below (hk.below (nh0 rfl))))
    · exact stepCall (ks := [34, 35]) [.agg (fldA ss), .agg (fldA dd)] rfl rfl rfl rfl cfMinus rfl (src2 (src_new 0 (by decide) rfl rfl (by kernel_rfl)) (src_new 1 (by decide) rfl rfl (by kernel_rfl))) (fun w hk => fSub_any ss dd g w Eg.out Bss.out Bdd.out (ht.below (hk.below (nh0 rfl)) ht.1))
    · exact stepNew rfl rfl rfl rfl alF
    · exact stepPut (Z := Z4) (d := 12) (k := 36) rfl rfl rfl rfl rfl (by decide) rfl (by kernel_rfl) rfl (zszN g) (src_new 2 (by decide) rfl rfl (by kernel_rfl)) (fszN g) (oneN g) (uniq_of rfl)
  intro v x3 hok hk
  replace hk := hk.all
  refine wpList_nil ?_
  have v0 := okVal hok (j := 0) rfl rfl
  have v1 := okVal hok (j := 1) rfl rfl
  have v2 := okVal hok (j := 2) rfl rfl
  obtain ⟨g12, v3, k12, l12⟩ := okRowB hok (i := 4) (j := 3) rfl rfl rfl rfl
  clear hok
  simp only [putL, Nat.zero_add, Nat.reduceAdd, v0, v1, v2, v3, Act.put, List.setIfInBounds_toArray, List.set_cons_zero, List.set_cons_succ]
  clear v0 v1 v2 v3
  replace l12 := Nat.le_trans hM l12
  replace fbx := fbx.below (hk.below (nh0 rfl))
  replace fbz := fbz.below (hk.below (nh0 rfl))
  replace fu := fu.below (hk.below (nh0 rfl))
  replace h6 := h6.below (hk.below (nh0 rfl))
  replace h7 := h7.below (hk.below (nh0 rfl))
  replace ht := ht.below (hk.below (nh0 rfl)) ht.1
  replace f8 := f8.below (hk.below (nh0 rfl))
  replace f9 := f9.below (hk.below (nh0 rfl))
  replace f10 := f10.below (hk.below (nh0 rfl))
  replace f11 := f11.below (hk.below (nh0 rfl))
  have f12 := FldAt.blk k12
  clear k12
  replace hM := Nat.le_trans hM hk.size
  replace hB := hB.trans ((hk.below (nh0 rfl)).mono hB.size)
  clear hk
  go_upto_region 4 with (fail)
  refine region_all 13 (kdAt [.val (.agg (fldA ss)), .val (.agg (fldA dd)), .val (.agg (fldA X)), .val (.agg (fldA g)), .val (.agg (fldA ss)), .val (.agg (fldA g)), .val (.agg (fldA 121665)), .val (.agg (fldA gc)), .val (.agg (fldA gs)), .val (.agg (fldA Z)), .val (.agg (ptA X Z)), .new 81 Z8, .put 11 81 (ptA X Z)]) [some 37, some 38, some 39, some 40, some 41, some 42, some 43, some 44, some 45, some 46, some 47, some 13, none] (by kernel_rfl) rfl (by kernel_rfl) (by kernel_rfl) (by kernel_rfl) (by kernel_rfl) ?_ ?_
  · repeat refine allS ?_ ?_
    · exact all0
    · exact stepLoad (.pointer (some ⟨g10, 0, none⟩)) rfl rfl rfl rfl (src_old (by kernel_rfl) rfl) (fun w hk => FldAt.ld (f10.below (hk.below (nh0 rfl))))
    · exact stepLoad (.pointer (some ⟨g11, 0, none⟩)) rfl rfl rfl rfl (src_old (by kernel_rfl) rfl) (fun w hk => FldAt.ld (f11.below (hk.below (nh0 rfl))))
    · exact stepCall (ks := [37, 38]) [.agg (fldA ss), .agg (fldA dd)] rfl rfl rfl rfl cfTimes rfl (src2 (src_new 0 (by decide) rfl rfl (by kernel_rfl)) (src_new 1 (by decide) rfl rfl (by kernel_rfl))) (fun w hk => fMul_any ss dd X w EX.out Bss.out Bdd.out (ht.below (hk.below (nh0 rfl)) ht.1))
    · exact stepLoad (.pointer (some ⟨g12, 0, none⟩)) rfl rfl rfl rfl (src_old (by kernel_rfl) rfl) (fun w hk => FldAt.ld (f12.below (hk.below (nh0 rfl))))
    · exact stepLoad (.pointer (some ⟨g10, 0, none⟩)) rfl rfl rfl rfl (src_old (by kernel_rfl) rfl) (fun w hk => FldAt.ld (f10.below (hk.below (nh0 rfl))))
    · exact stepLoad (.pointer (some ⟨g12, 0, none⟩)) rfl rfl rfl rfl (src_old (by kernel_rfl) rfl) (fun w hk => FldAt.ld (f12.below (hk.below (nh0 rfl))))
    · exact stepBuild [] #[(0, .int .u64 121665)] rfl rfl rfl rfl (fun p hp => by cases hp) (fun a ha => by simp [Act.eval]) (fun w => bF 121665 (by decide) w)
    · exact stepCall (ks := [42, 43]) [.agg (fldA g), .agg (fldA 121665)] rfl rfl rfl rfl cfTimes rfl (src2 (src_new 5 (by decide) rfl rfl (by kernel_rfl)) (src_new 6 (by decide) rfl rfl (by kernel_rfl))) (fun w hk => fMul_any g 121665 gc w Egc.out Bg.out B121665.out (ht.below (hk.below (nh0 rfl)) ht.1))
    · exact stepCall (ks := [41, 44]) [.agg (fldA ss), .agg (fldA gc)] rfl rfl rfl rfl cfPlus rfl (src2 (src_new 4 (by decide) rfl rfl (by kernel_rfl)) (src_new 7 (by decide) rfl rfl (by kernel_rfl))) (fun w hk => fAdd_any ss gc gs w Egs.out Bss.out Bgc.out (ht.below (hk.below (nh0 rfl)) ht.1))
    · exact stepCall (ks := [40, 45]) [.agg (fldA g), .agg (fldA gs)] rfl rfl rfl rfl cfTimes rfl (src2 (src_new 3 (by decide) rfl rfl (by kernel_rfl)) (src_new 8 (by decide) rfl rfl (by kernel_rfl))) (fun w hk => fMul_any g gs Z w EZ.out Bg.out Bgs.out (ht.below (hk.below (nh0 rfl)) ht.1))
    · exact stepBuild [(39, .agg (fldA X)), (46, .agg (fldA Z))] #[(0, .agg (fldA X)), (1, .agg (fldA Z))] rfl rfl rfl rfl (srcN2 (src_new 2 (by decide) rfl rfl (by kernel_rfl)) (src_new 9 (by decide) rfl rfl (by kernel_rfl))) (fun a ha => by simp [show a.eval (.tmp 39) = .agg (fldA X) from ha (39, .agg (fldA X)) (by simp), show a.eval (.tmp 46) = .agg (fldA Z) from ha (46, .agg (fldA Z)) (by simp)]) (fun w => bP X Z w)
    · exact stepNew rfl rfl rfl rfl alP
    · exact stepPut (Z := Z8) (d := 13) (k := 47) rfl rfl rfl rfl rfl (by decide) rfl (by kernel_rfl) rfl (z8p X Z) (src_new 10 (by decide) rfl rfl (by kernel_rfl)) (ptSz X Z) (ptOne X Z) (uniq_of rfl)
  intro v x4 hok hk
  replace hk := hk.all
  have v0 := okVal hok (j := 0) rfl rfl
  have v1 := okVal hok (j := 1) rfl rfl
  have v2 := okVal hok (j := 2) rfl rfl
  have v3 := okVal hok (j := 3) rfl rfl
  have v4 := okVal hok (j := 4) rfl rfl
  have v5 := okVal hok (j := 5) rfl rfl
  have v6 := okVal hok (j := 6) rfl rfl
  have v7 := okVal hok (j := 7) rfl rfl
  have v8 := okVal hok (j := 8) rfl rfl
  have v9 := okVal hok (j := 9) rfl rfl
  have v10 := okVal hok (j := 10) rfl rfl
  obtain ⟨g13, v11, k13, l13⟩ := okRowB hok (i := 12) (j := 11) rfl rfl rfl rfl
  clear hok
  simp only [putL, Nat.zero_add, Nat.reduceAdd, v0, v1, v2, v3, v4, v5, v6, v7, v8, v9, v10, v11, Act.put, List.setIfInBounds_toArray, List.set_cons_zero, List.set_cons_succ]
  clear v0 v1 v2 v3 v4 v5 v6 v7 v8 v9 v10 v11
  replace l13 := Nat.le_trans hM l13
  replace fbx := fbx.below (hk.below (nh0 rfl))
  replace fbz := fbz.below (hk.below (nh0 rfl))
  replace fu := fu.below (hk.below (nh0 rfl))
  replace h6 := h6.below (hk.below (nh0 rfl))
  replace h7 := h7.below (hk.below (nh0 rfl))
  replace ht := ht.below (hk.below (nh0 rfl)) ht.1
  replace f8 := f8.below (hk.below (nh0 rfl))
  replace f9 := f9.below (hk.below (nh0 rfl))
  replace f10 := f10.below (hk.below (nh0 rfl))
  replace f11 := f11.below (hk.below (nh0 rfl))
  replace f12 := f12.below (hk.below (nh0 rfl))
  have f13 : Blk g13 (ptA X Z) 81 x4 := k13
  clear k13
  replace hM := Nat.le_trans hM hk.size
  replace hB := hB.trans ((hk.below (nh0 rfl)).mono hB.size)
  clear hk
  go_upto_region 5 with (fail)
  refine region_all 9 (kdAt [.val (.pointer (some ⟨gb, 0, none⟩)), .val (.agg (fldA bx)), .val (.pointer (some ⟨gb, 4, none⟩)), .val (.agg (fldA bz)), .val (.agg (fldA bm)), .val (.agg (fldA s)), .val (.agg (fldA l)), .new 60 Z4, .put 7 60 (fldA l)]) [some 48, some 49, some 50, some 51, some 52, some 53, some 54, some 14, none] (by kernel_rfl) rfl (by kernel_rfl) (by kernel_rfl) (by kernel_rfl) (by kernel_rfl) ?_ ?_
  · repeat refine allS ?_ ?_
    · exact all0
    · exact stepField (.pointer (some ⟨gb, 0, none⟩)) rfl rfl rfl rfl (src_old (by kernel_rfl) rfl) (fun w => fx _ w)
    · exact stepLoad (.pointer (some ⟨gb, 0, none⟩)) rfl rfl rfl rfl (src_new 0 (by decide) rfl rfl (by kernel_rfl)) (fun w hk => FldAt.ld (fbx.below (hk.below (nh0 rfl))))
    · exact stepField (.pointer (some ⟨gb, 0, none⟩)) rfl rfl rfl rfl (src_old (by kernel_rfl) rfl) (fun w => fz _ w)
    · exact stepLoad (.pointer (some ⟨gb, 4, none⟩)) rfl rfl rfl rfl (src_new 2 (by decide) rfl rfl (by kernel_rfl)) (fun w hk => FldAt.ld (fbz.below (hk.below (nh0 rfl))))
    · exact stepCall (ks := [49, 51]) [.agg (fldA bx), .agg (fldA bz)] rfl rfl rfl rfl cfMinus rfl (src2 (src_new 1 (by decide) rfl rfl (by kernel_rfl)) (src_new 3 (by decide) rfl rfl (by kernel_rfl))) (fun w hk => fSub_any bx bz bm w Ebm.out Bbx.out Bbz.out (ht.below (hk.below (nh0 rfl)) ht.1))
    · exact stepLoad (.pointer (some ⟨g8, 0, none⟩)) rfl rfl rfl rfl (src_old (by kernel_rfl) rfl) (fun w hk => FldAt.ld (f8.below (hk.below (nh0 rfl))))
    · exact stepCall (ks := [52, 53]) [.agg (fldA bm), .agg (fldA s)] rfl rfl rfl rfl cfTimes rfl (src2 (src_new 4 (by decide) rfl rfl (by kernel_rfl)) (src_new 5 (by decide) rfl rfl (by kernel_rfl))) (fun w hk => fMul_any bm s l w El.out Bbm.out Bs.out (ht.below (hk.below (nh0 rfl)) ht.1))
    · exact stepNew rfl rfl rfl rfl alF
    · exact stepPut (Z := Z4) (d := 14) (k := 54) rfl rfl rfl rfl rfl (by decide) rfl (by kernel_rfl) rfl (zszN l) (src_new 6 (by decide) rfl rfl (by kernel_rfl)) (fszN l) (oneN l) (uniq_of rfl)
  intro v x5 hok hk
  replace hk := hk.all
  have v0 := okVal hok (j := 0) rfl rfl
  have v1 := okVal hok (j := 1) rfl rfl
  have v2 := okVal hok (j := 2) rfl rfl
  have v3 := okVal hok (j := 3) rfl rfl
  have v4 := okVal hok (j := 4) rfl rfl
  have v5 := okVal hok (j := 5) rfl rfl
  have v6 := okVal hok (j := 6) rfl rfl
  obtain ⟨g14, v7, k14, l14⟩ := okRowB hok (i := 8) (j := 7) rfl rfl rfl rfl
  clear hok
  simp only [putL, Nat.zero_add, Nat.reduceAdd, v0, v1, v2, v3, v4, v5, v6, v7, Act.put, List.setIfInBounds_toArray, List.set_cons_zero, List.set_cons_succ]
  clear v0 v1 v2 v3 v4 v5 v6 v7
  replace l14 := Nat.le_trans hM l14
  replace fbx := fbx.below (hk.below (nh0 rfl))
  replace fbz := fbz.below (hk.below (nh0 rfl))
  replace fu := fu.below (hk.below (nh0 rfl))
  replace h6 := h6.below (hk.below (nh0 rfl))
  replace h7 := h7.below (hk.below (nh0 rfl))
  replace ht := ht.below (hk.below (nh0 rfl)) ht.1
  replace f8 := f8.below (hk.below (nh0 rfl))
  replace f9 := f9.below (hk.below (nh0 rfl))
  replace f10 := f10.below (hk.below (nh0 rfl))
  replace f11 := f11.below (hk.below (nh0 rfl))
  replace f12 := f12.below (hk.below (nh0 rfl))
  replace f13 := f13.below (hk.below (nh0 rfl))
  have f14 := FldAt.blk k14
  clear k14
  replace hM := Nat.le_trans hM hk.size
  replace hB := hB.trans ((hk.below (nh0 rfl)).mono hB.size)
  clear hk
  go_upto_region 6 with (fail)
  refine region_all 9 (kdAt [.val (.pointer (some ⟨gb, 0, none⟩)), .val (.agg (fldA bx)), .val (.pointer (some ⟨gb, 4, none⟩)), .val (.agg (fldA bz)), .val (.agg (fldA bp)), .val (.agg (fldA d)), .val (.agg (fldA r)), .new 60 Z4, .put 7 60 (fldA r)]) [some 55, some 56, some 57, some 58, some 59, some 60, some 61, some 15, none] (by kernel_rfl) rfl (by kernel_rfl) (by kernel_rfl) (by kernel_rfl) (by kernel_rfl) ?_ ?_
  · repeat refine allS ?_ ?_
    · exact all0
    · exact stepField (.pointer (some ⟨gb, 0, none⟩)) rfl rfl rfl rfl (src_old (by kernel_rfl) rfl) (fun w => fx _ w)
    · exact stepLoad (.pointer (some ⟨gb, 0, none⟩)) rfl rfl rfl rfl (src_new 0 (by decide) rfl rfl (by kernel_rfl)) (fun w hk => FldAt.ld (fbx.below (hk.below (nh0 rfl))))
    · exact stepField (.pointer (some ⟨gb, 0, none⟩)) rfl rfl rfl rfl (src_old (by kernel_rfl) rfl) (fun w => fz _ w)
    · exact stepLoad (.pointer (some ⟨gb, 4, none⟩)) rfl rfl rfl rfl (src_new 2 (by decide) rfl rfl (by kernel_rfl)) (fun w hk => FldAt.ld (fbz.below (hk.below (nh0 rfl))))
    · exact stepCall (ks := [56, 58]) [.agg (fldA bx), .agg (fldA bz)] rfl rfl rfl rfl cfPlus rfl (src2 (src_new 1 (by decide) rfl rfl (by kernel_rfl)) (src_new 3 (by decide) rfl rfl (by kernel_rfl))) (fun w hk => fAdd_any bx bz bp w Ebp.out Bbx.out Bbz.out (ht.below (hk.below (nh0 rfl)) ht.1))
    · exact stepLoad (.pointer (some ⟨g9, 0, none⟩)) rfl rfl rfl rfl (src_old (by kernel_rfl) rfl) (fun w hk => FldAt.ld (f9.below (hk.below (nh0 rfl))))
    · exact stepCall (ks := [59, 60]) [.agg (fldA bp), .agg (fldA d)] rfl rfl rfl rfl cfTimes rfl (src2 (src_new 4 (by decide) rfl rfl (by kernel_rfl)) (src_new 5 (by decide) rfl rfl (by kernel_rfl))) (fun w hk => fMul_any bp d r w Er.out Bbp.out Bd.out (ht.below (hk.below (nh0 rfl)) ht.1))
    · exact stepNew rfl rfl rfl rfl alF
    · exact stepPut (Z := Z4) (d := 15) (k := 61) rfl rfl rfl rfl rfl (by decide) rfl (by kernel_rfl) rfl (zszN r) (src_new 6 (by decide) rfl rfl (by kernel_rfl)) (fszN r) (oneN r) (uniq_of rfl)
  intro v x6 hok hk
  replace hk := hk.all
  have v0 := okVal hok (j := 0) rfl rfl
  have v1 := okVal hok (j := 1) rfl rfl
  have v2 := okVal hok (j := 2) rfl rfl
  have v3 := okVal hok (j := 3) rfl rfl
  have v4 := okVal hok (j := 4) rfl rfl
  have v5 := okVal hok (j := 5) rfl rfl
  have v6 := okVal hok (j := 6) rfl rfl
  obtain ⟨g15, v7, k15, l15⟩ := okRowB hok (i := 8) (j := 7) rfl rfl rfl rfl
  clear hok
  simp only [putL, Nat.zero_add, Nat.reduceAdd, v0, v1, v2, v3, v4, v5, v6, v7, Act.put, List.setIfInBounds_toArray, List.set_cons_zero, List.set_cons_succ]
  clear v0 v1 v2 v3 v4 v5 v6 v7
  replace l15 := Nat.le_trans hM l15
  replace fbx := fbx.below (hk.below (nh0 rfl))
  replace fbz := fbz.below (hk.below (nh0 rfl))
  replace fu := fu.below (hk.below (nh0 rfl))
  replace h6 := h6.below (hk.below (nh0 rfl))
  replace h7 := h7.below (hk.below (nh0 rfl))
  replace ht := ht.below (hk.below (nh0 rfl)) ht.1
  replace f8 := f8.below (hk.below (nh0 rfl))
  replace f9 := f9.below (hk.below (nh0 rfl))
  replace f10 := f10.below (hk.below (nh0 rfl))
  replace f11 := f11.below (hk.below (nh0 rfl))
  replace f12 := f12.below (hk.below (nh0 rfl))
  replace f13 := f13.below (hk.below (nh0 rfl))
  replace f14 := f14.below (hk.below (nh0 rfl))
  have f15 := FldAt.blk k15
  clear k15
  replace hM := Nat.le_trans hM hk.size
  replace hB := hB.trans ((hk.below (nh0 rfl)).mono hB.size)
  clear hk
  go_upto_region 7 with (fail)
  refine region_all 10 (kdAt [.val (.agg (fldA l)), .val (.agg (fldA r)), .val (.agg (fldA p)), .val (.agg (fldA l)), .val (.agg (fldA r)), .val (.agg (fldA q)), .new 60 Z4, .new 60 Z4, .put 6 60 (fldA p), .put 7 60 (fldA q)]) [some 62, some 63, some 64, some 65, some 66, some 67, some 16, some 17, none, none] (by kernel_rfl) rfl (by kernel_rfl) (by kernel_rfl) (by kernel_rfl) (by kernel_rfl) ?_ ?_
  · repeat refine allS ?_ ?_
    · exact all0
    · exact stepLoad (.pointer (some ⟨g14, 0, none⟩)) rfl rfl rfl rfl (src_old (by kernel_rfl) rfl) (fun w hk => FldAt.ld (f14.below (hk.below (nh0 rfl))))
    · exact stepLoad (.pointer (some ⟨g15, 0, none⟩)) rfl rfl rfl rfl (src_old (by kernel_rfl) rfl) (fun w hk => FldAt.ld (f15.below (hk.below (nh0 rfl))))
    · exact stepCall (ks := [62, 63]) [.agg (fldA l), .agg (fldA r)] rfl rfl rfl rfl cfPlus rfl (src2 (src_new 0 (by decide) rfl rfl (by kernel_rfl)) (src_new 1 (by decide) rfl rfl (by kernel_rfl))) (fun w hk => fAdd_any l r p w Ep.out Bl.out Br.out (ht.below (hk.below (nh0 rfl)) ht.1))
    · exact stepLoad (.pointer (some ⟨g14, 0, none⟩)) rfl rfl rfl rfl (src_old (by kernel_rfl) rfl) (fun w hk => FldAt.ld (f14.below (hk.below (nh0 rfl))))
    · exact stepLoad (.pointer (some ⟨g15, 0, none⟩)) rfl rfl rfl rfl (src_old (by kernel_rfl) rfl) (fun w hk => FldAt.ld (f15.below (hk.below (nh0 rfl))))
    · exact stepCall (ks := [65, 66]) [.agg (fldA l), .agg (fldA r)] rfl rfl rfl rfl cfMinus rfl (src2 (src_new 3 (by decide) rfl rfl (by kernel_rfl)) (src_new 4 (by decide) rfl rfl (by kernel_rfl))) (fun w hk => fSub_any l r q w Eq.out Bl.out Br.out (ht.below (hk.below (nh0 rfl)) ht.1))
    · exact stepNew rfl rfl rfl rfl alF
    · exact stepNew rfl rfl rfl rfl alF
    · exact stepPut (Z := Z4) (d := 16) (k := 64) rfl rfl rfl rfl rfl (by decide) rfl (by kernel_rfl) rfl (zszN p) (src_new 2 (by decide) rfl rfl (by kernel_rfl)) (fszN p) (oneN p) (uniq_of rfl)
    · exact stepPut (Z := Z4) (d := 17) (k := 67) rfl rfl rfl rfl rfl (by decide) rfl (by kernel_rfl) rfl (zszN q) (src_new 5 (by decide) rfl rfl (by kernel_rfl)) (fszN q) (oneN q) (uniq_of rfl)
  intro v x7 hok hk
  replace hk := hk.all
  have v0 := okVal hok (j := 0) rfl rfl
  have v1 := okVal hok (j := 1) rfl rfl
  have v2 := okVal hok (j := 2) rfl rfl
  have v3 := okVal hok (j := 3) rfl rfl
  have v4 := okVal hok (j := 4) rfl rfl
  have v5 := okVal hok (j := 5) rfl rfl
  obtain ⟨g16, v6, k16, l16⟩ := okRowB hok (i := 8) (j := 6) rfl rfl rfl rfl
  obtain ⟨g17, v7, k17, l17⟩ := okRowB hok (i := 9) (j := 7) rfl rfl rfl rfl
  have n16_17 := okNe hok (i := 6) (j := 7) rfl rfl rfl rfl (by decide) v6 v7
  clear hok
  simp only [putL, Nat.zero_add, Nat.reduceAdd, v0, v1, v2, v3, v4, v5, v6, v7, Act.put, List.setIfInBounds_toArray, List.set_cons_zero, List.set_cons_succ]
  clear v0 v1 v2 v3 v4 v5 v6 v7
  clear fbx
  clear fbz
  clear f8
  clear f9
  clear f10
  clear f11
  clear f12
  replace l16 := Nat.le_trans hM l16
  replace l17 := Nat.le_trans hM l17
  replace fu := fu.below (hk.below (nh0 rfl))
  replace h6 := h6.below (hk.below (nh0 rfl))
  replace h7 := h7.below (hk.below (nh0 rfl))
  replace ht := ht.below (hk.below (nh0 rfl)) ht.1
  replace f13 := f13.below (hk.below (nh0 rfl))
  replace f14 := f14.below (hk.below (nh0 rfl))
  replace f15 := f15.below (hk.below (nh0 rfl))
  have f16 := FldAt.blk k16
  clear k16
  have f17 := FldAt.blk k17
  clear k17
  replace hM := Nat.le_trans hM hk.size
  replace hB := hB.trans ((hk.below (nh0 rfl)).mono hB.size)
  clear hk
  go_upto_region 8 with (fail)
  refine region_all 12 (kdAt [.val (.agg (ptA X Z)), .val (.agg (fldA p)), .val (.agg (fldA p)), .val (.agg (fldA XX)), .val (.agg (fldA u)), .val (.agg (fldA q)), .val (.agg (fldA q)), .val (.agg (fldA qq)), .val (.agg (fldA ZZ)), .val (.agg (ptA XX ZZ)), .old g6 81 (ptA X Z), .old g7 81 (ptA XX ZZ)]) [some 68, some 69, some 70, some 71, some 72, some 73, some 74, some 75, some 76, some 77, none, none] (by kernel_rfl) rfl (by kernel_rfl) (by kernel_rfl) (by kernel_rfl) (by kernel_rfl) ?_ ?_
  · repeat refine allS ?_ ?_
    · exact all0
    · exact stepLoad (.pointer (some ⟨g13, 0, none⟩)) rfl rfl rfl rfl (src_old (by kernel_rfl) rfl) (fun w hk => ptld (f13.kept hk (nh2 rfl (ne_new HN.out.1 l13) (ne_new HN.out.2.1 l13))))
    · exact stepLoad (.pointer (some ⟨g16, 0, none⟩)) rfl rfl rfl rfl (src_old (by kernel_rfl) rfl) (fun w hk => FldAt.ld (f16.kept hk (nh2 rfl (ne_new HN.out.1 l16) (ne_new HN.out.2.1 l16))))
    · exact stepLoad (.pointer (some ⟨g16, 0, none⟩)) rfl rfl rfl rfl (src_old (by kernel_rfl) rfl) (fun w hk => FldAt.ld (f16.kept hk (nh2 rfl (ne_new HN.out.1 l16) (ne_new HN.out.2.1 l16))))
    · exact stepCall (ks := [69, 70]) [.agg (fldA p), .agg (fldA p)] rfl rfl rfl rfl cfTimes rfl (src2 (src_new 1 (by decide) rfl rfl (by kernel_rfl)) (src_new 2 (by decide) rfl rfl (by kernel_rfl))) (fun w hk => fMul_any p p XX w EXX.out Bp.out Bp.out (ht.kept hk (nh2 rfl HN.out.2.2.2.2.2.1 HN.out.2.2.2.2.2.2.1)))
    · exact stepLoad (.pointer (some ⟨gu, 0, none⟩)) rfl rfl rfl rfl (src_old (by kernel_rfl) rfl) (fun w hk => FldAt.ld (fu.kept hk (nh2 rfl HN.out.2.2.1 HN.out.2.2.2.1)))
    · exact stepLoad (.pointer (some ⟨g17, 0, none⟩)) rfl rfl rfl rfl (src_old (by kernel_rfl) rfl) (fun w hk => FldAt.ld (f17.kept hk (nh2 rfl (ne_new HN.out.1 l17) (ne_new HN.out.2.1 l17))))
    · exact stepLoad (.pointer (some ⟨g17, 0, none⟩)) rfl rfl rfl rfl (src_old (by kernel_rfl) rfl) (fun w hk => FldAt.ld (f17.kept hk (nh2 rfl (ne_new HN.out.1 l17) (ne_new HN.out.2.1 l17))))
    · exact stepCall (ks := [73, 74]) [.agg (fldA q), .agg (fldA q)] rfl rfl rfl rfl cfTimes rfl (src2 (src_new 5 (by decide) rfl rfl (by kernel_rfl)) (src_new 6 (by decide) rfl rfl (by kernel_rfl))) (fun w hk => fMul_any q q qq w Eqq.out Bq.out Bq.out (ht.kept hk (nh2 rfl HN.out.2.2.2.2.2.1 HN.out.2.2.2.2.2.2.1)))
    · exact stepCall (ks := [72, 75]) [.agg (fldA u), .agg (fldA qq)] rfl rfl rfl rfl cfTimes rfl (src2 (src_new 4 (by decide) rfl rfl (by kernel_rfl)) (src_new 7 (by decide) rfl rfl (by kernel_rfl))) (fun w hk => fMul_any u qq ZZ w EZZ.out Bu.out Bqq.out (ht.kept hk (nh2 rfl HN.out.2.2.2.2.2.1 HN.out.2.2.2.2.2.2.1)))
    · exact stepBuild [(71, .agg (fldA XX)), (76, .agg (fldA ZZ))] #[(0, .agg (fldA XX)), (1, .agg (fldA ZZ))] rfl rfl rfl rfl (srcN2 (src_new 3 (by decide) rfl rfl (by kernel_rfl)) (src_new 8 (by decide) rfl rfl (by kernel_rfl))) (fun a ha => by simp [show a.eval (.tmp 71) = .agg (fldA XX) from ha (71, .agg (fldA XX)) (by simp), show a.eval (.tmp 76) = .agg (fldA ZZ) from ha (76, .agg (fldA ZZ)) (by simp)]) (fun w => bP XX ZZ w)
    · exact stepOld (d := 6) (k := 68) rfl rfl rfl rfl rfl (src_old (by kernel_rfl) rfl) h6 (z8p _ _) (src_new 0 (by decide) rfl rfl (by kernel_rfl)) (ptSz X Z) (ptOne X Z) (two_old rfl HN.out.2.2.2.2.1).1
    · exact stepOld (d := 7) (k := 77) rfl rfl rfl rfl rfl (src_old (by kernel_rfl) rfl) h7 (z8p _ _) (src_new 9 (by decide) rfl rfl (by kernel_rfl)) (ptSz XX ZZ) (ptOne XX ZZ) (two_old rfl HN.out.2.2.2.2.1).2
  intro v x8 hok hk
  replace hk := hk.all
  have v0 := okVal hok (j := 0) rfl rfl
  have v1 := okVal hok (j := 1) rfl rfl
  have v2 := okVal hok (j := 2) rfl rfl
  have v3 := okVal hok (j := 3) rfl rfl
  have v4 := okVal hok (j := 4) rfl rfl
  have v5 := okVal hok (j := 5) rfl rfl
  have v6 := okVal hok (j := 6) rfl rfl
  have v7 := okVal hok (j := 7) rfl rfl
  have v8 := okVal hok (j := 8) rfl rfl
  have v9 := okVal hok (j := 9) rfl rfl
  have o10 := okOld hok (i := 10) rfl rfl
  have o11 := okOld hok (i := 11) rfl rfl
  clear hok
  simp only [putL, Nat.zero_add, Nat.reduceAdd, v0, v1, v2, v3, v4, v5, v6, v7, v8, v9, Act.put, List.setIfInBounds_toArray, List.set_cons_zero, List.set_cons_succ]
  clear v0 v1 v2 v3 v4 v5 v6 v7 v8 v9
  clear f14
  clear f15
  clear f13
  clear f16
  clear f17
  clear fu
  clear ht
  clear h6
  clear h7
  have f_g6 : Blk g6 (ptA X Z) 81 x8 := o10
  clear o10
  have f_g7 : Blk g7 (ptA XX ZZ) 81 x8 := o11
  clear o11
  replace hM := Nat.le_trans hM hk.size
  replace hB := hB.trans (hk.base hB.size (fun k hk => nh2 rfl (Nat.ne_of_lt (Nat.lt_of_lt_of_le hk HN.out.2.2.2.2.2.2.2.1)) (Nat.ne_of_lt (Nat.lt_of_lt_of_le hk HN.out.2.2.2.2.2.2.2.2))))
  clear hk
  go_wp2_with fail
  refine bodyPost_ret (v := .tuple #[.agg (ptA X Z), .agg (ptA XX ZZ)]) ?_ rfl ⟨rfl, hB⟩
  exact results_row2 Tryd.results67 _ _ g6 g7 81 _ _ (0, 0) _ rfl rfl f_g6 f_g7 Tryd.underlying81 rfl (ptSz _ _) (ptSz _ _)

theorem stepped_any (a b : Nat × Nat) (u : Nat) (w : World) (h1 : a.1 < P25n) (h2 : a.2 < P25n) (h3 : b.1 < P25n) (h4 : b.2 < P25n) (h5 : u < P25n) (hp : TabP w) :
    Calls Tryd.prog 67 #[.agg (ptA a.1 a.2), .agg (ptA b.1 b.2), .agg (fldA u)] w fun e w' => e = .returned (.tuple #[.agg (ptA (stepN a b u).1.1 (stepN a b u).1.2), .agg (ptA (stepN a b u).2.1 (stepN a b u).2.2)]) ∧ Below w.heap.size w w' :=
  stepped_let a.1 a.2 b.1 b.2 u _ _ _ _ _ _ _ _ _ _ _ _ _ _ _ _ _ _ w h1 h2 h3 h4 h5 hp rfl rfl rfl rfl rfl rfl rfl rfl rfl rfl rfl rfl rfl rfl rfl rfl rfl rfl

end Go.Proofs.YtdhfddeghnoecaaDoor
