/- Sessions: StartA of both sides. -/
import Derived.Test.YtfbcmckepdjdkaaDoorGM5
import Derived.Test.YtfbcmckepdjdkaaDoorGM10
namespace Go.Proofs.YtfbcmckepdjdkaaDoor
open Go.RowKit Go.My Go.Lib
set_option linter.unusedVariables false

def rt0 (r d : ByteArray) : ByteArray := if r.size = 32 ∧ d.size = 32 then (rootE r d).extract 0 32 else ByteArray.mk #[]
def rt1 (r d : ByteArray) : ByteArray := if r.size = 32 ∧ d.size = 32 then (rootE r d).extract 32 64 else ByteArray.mk #[]
theorem rootV_is (r d : ByteArray) : rootV r d = .tuple #[.string (rt0 r d), .string (rt1 r d)] := by
  by_cases h : r.size = 32 ∧ d.size = 32
  · rw [rootV_yes r d h, rt0, rt1, if_pos h, if_pos h]
  · rw [rootV_no r d h, rt0, rt1, if_neg h, if_neg h]
theorem dhV_le (k p : ByteArray) : (dhV k p).size ≤ 32 := by
  unfold dhV
  split
  · rw [str_size, leB_len]; omega
  · rw [str_size]; simp
def stA (r t o : ByteArray) : Array Value := if r.size = 32 ∧ t.size = 32 ∧ o.size = 32 then sesA (rt0 r (dhV o t)) o (dhV o nineS) t (rt1 r (dhV o t)) 0 0 (ByteArray.mk #[]) 0 else sesZ
theorem stA_is (r t o : ByteArray) : IsSes (stA r t o) := by
  unfold stA
  split
  · exact ⟨_, _, _, _, _, _, _, _, _, rfl⟩
  · exact ⟨_, _, _, _, _, _, _, _, _, rfl⟩
theorem pubA_i (k o : ByteArray) (w : World) (ho : o = dhV k nineS) (hk : k.size ≤ 1048576) (ht : TabP w) :
    Calls Tryd.prog 27 #[.string k] w fun e w' => e = .returned (.string o) ∧ Below w.heap.size w w' := by rw [ho]; exact pubI20 k w hk ht
theorem pubA_s (k o : ByteArray) (w : World) (ho : o = dhV k nineS) (hk : k.size ≤ 1048576) :
    Calls Tryd.prog 63 #[.string k] w fun e w' => e = .returned (.string o) ∧ Below w.heap.size w w' := by rw [ho]; exact pubS20 k w hk
theorem dhA_i (k p o : ByteArray) (w : World) (ho : o = dhV k p) (hk : k.size ≤ 1048576) (hp : p.size ≤ 1048576) (ht : TabP w) :
    Calls Tryd.prog 68 #[.string k, .string p] w fun e w' => e = .returned (.string o) ∧ Below w.heap.size w w' := by rw [ho]; exact dhI20 k p w hk hp ht
theorem dhA_s (k p o : ByteArray) (w : World) (ho : o = dhV k p) (hk : k.size ≤ 1048576) (hp : p.size ≤ 1048576) :
    Calls Tryd.prog 65 #[.string k, .string p] w fun e w' => e = .returned (.string o) ∧ Below w.heap.size w w' := by rw [ho]; exact dhS20 k p w hk hp
theorem rootA_i (r d x y : ByteArray) (w : World) (hx : x = rt0 r d) (hy : y = rt1 r d) (hr : r.size ≤ 1048576) (hd : d.size ≤ 32) (ht : TabK w) :
    Calls Tryd.prog 67 #[.string r, .string d] w fun e w' => e = .returned (.tuple #[.string x, .string y]) ∧ Below w.heap.size w w' := by rw [hx, hy, ← rootV_is]; exact root_impl r d w ht (by omega) (by omega)
theorem dhV_sz (k p : ByteArray) (h : k.size = 32 ∧ p.size = 32) : (dhV k p).size = 32 := by
  rw [dhV, if_pos h, str_size, leB_len]
theorem rootA_s (r d x y : ByteArray) (w : World) (hx : x = rt0 r d) (hy : y = rt1 r d) (hr : r.size = 32) (hd : d.size = 32) :
    Calls Tryd.prog 64 #[.string r, .string d] w fun e w' => e = .returned (.tuple #[.string x, .string y]) ∧ Below w.heap.size w w' := by
  rw [hx, hy, rt0, rt1, if_pos ⟨hr, hd⟩, if_pos ⟨hr, hd⟩]; exact l6Root_any r d w ⟨hr, hd⟩

set_option maxRecDepth 100000 in
set_option maxHeartbeats 4000000 in
theorem startA_i (r t o : ByteArray) (w : World) (hr : r.size ≤ 1048576) (hh : t.size ≤ 1048576) (ho : o.size ≤ 1048576) (hT : TabP w ∧ TabK w) :
    Calls Tryd.prog 15 #[.string r, .string t, .string o] w fun e w' => e = .returned (.tuple #[.agg (stA r t o), .bool (decide (r.size = 32 ∧ t.size = 32 ∧ o.size = 32))]) ∧ Below w.heap.size w w' := by
  have hb0 : Below w.heap.size w ((w.alloc (.cells sesZ 24)).alloc (.cells (strsA [r, t, o]) 9)) := ((Below.refl _ _).alloc (Nat.le_refl _) _).alloc (by simp) _
  have HTP := Lib.hid hT.1
  have HTK := Lib.hid hT.2
  have HK := Lib.hid (allKeys_any (w.heap.size + 1) [r, t, o] ((w.alloc (.cells sesZ 24)).alloc (.cells (strsA [r, t, o]) 9)) (heap_alloc2_new w _ _) (by simp) (fun j hj => by
    have : j = 0 ∨ j = 1 ∨ j = 2 := by simp at hj; omega
    rcases this with rfl | rfl | rfl
    · show r.size ≤ _; omega
    · show t.size ≤ _; omega
    · show o.size ≤ _; omega))
  have f0 : Blk w.heap.size sesZ 24 ((w.alloc (.cells sesZ 24)).alloc (.cells (strsA [r, t, o]) 9)) := heap_alloc2_old w _ _
  have HA : Hid (allK [r, t, o] = decide (r.size = 32 ∧ t.size = 32 ∧ o.size = 32)) := by show _ = _; simp [allK]
  have HR := Lib.hid hr
  have HH := Lib.hid hh
  have HO := Lib.hid ho
  clear hr hh ho hT
  by_cases h : r.size = 32 ∧ t.size = 32 ∧ o.size = 32
  · obtain ⟨p, ep⟩ : ∃ p, p = dhV o nineS := ⟨_, rfl⟩
    obtain ⟨d, ed⟩ : ∃ d, d = dhV o t := ⟨_, rfl⟩
    have HD : Hid (d.size ≤ 32) := by show _ ≤ _; rw [ed]; exact dhV_le o t
    obtain ⟨x, ex⟩ : ∃ x, x = rt0 r d := ⟨_, rfl⟩
    obtain ⟨y, ey⟩ : ∃ y, y = rt1 r d := ⟨_, rfl⟩
    have HV : Hid (stA r t o = sesA x o p t y 0 0 (ByteArray.mk #[]) 0) := by show _ = _; rw [ey, ex, ep, ed]; exact if_pos h
    have Ep := Lib.hid ep
    have Ed := Lib.hid ed
    have Ex := Lib.hid ex
    have Ey := Lib.hid ey
    rw [decide_eq_true h] at HA ⊢
    clear h ep ed ex ey
    generalize hst : stA r t o = A at *
    have HST := Lib.hid hst
    clear hst
    go_enter Tryd.func15, Tryd.ntmps15
    go_wp2_with fail
    refine HK.out.mono ?_
    rintro e w' ⟨rfl, rfl⟩
    rw [HA.out]
    clear HK
    go_wp2_with fail
    refine (pubA_i o p ((w.alloc (.cells sesZ 24)).alloc (.cells (strsA [r, t, o]) 9)) Ep.out HO.out (HTP.out.below hb0 HTP.out.1)).mono ?_
    rintro e w1 ⟨rfl, hb1⟩
    have hB1 := hb0.trans (hb1.mono hb0.size)
    replace f0 := f0.below hb1
    clear hb1 hb0
    go_wp2_with (first | ((with_reducible refine wpList_store_row' (o := ⟨none, .store 24 _ _, _, _, _, _⟩) rfl 24 _ _ rfl w1.heap.size (sesA (ByteArray.mk #[]) o p t (ByteArray.mk #[]) 0 0 (ByteArray.mk #[]) 0) rfl rfl 24 sesZ (heap_alloc_new w1 _) (sesSz _ _ _ _ _ _ _ _ _) rfl (sesOne _ _ _ _ _ _ _ _ _) ?_); intro w2 hw2 hs2 hg2) | fail)
    have f2 : Blk w1.heap.size (sesA (ByteArray.mk #[]) o p t (ByteArray.mk #[]) 0 0 (ByteArray.mk #[]) 0) 24 w2 := hw2
    have hB2 : Below w.heap.size w w2 := (hB1.alloc hB1.size _).grown hg2 (by simp; have := hB1.size; omega) (by intro k hk; have := Option.some.inj hk; have := hB1.size; omega)
    have hl0 := f0.lt
    replace f0 : Blk w.heap.size sesZ 24 w2 := (hg2.block _ (by simp; omega) (by simp; omega)).trans ((Below.heap_alloc _ _ _ hl0).trans f0)
    have HNE : Hid (w.heap.size ≠ w1.heap.size) := by show _ ≠ _; omega
    have HGE : Hid (w.heap.size ≤ w1.heap.size) := hB1.size
    clear hw2 hs2 hg2 hB1 hl0
    obtain ⟨g, hg⟩ : ∃ g, g = w1.heap.size := ⟨_, rfl⟩
    rw [← hg] at f2 HNE HGE
    refine (dhA_i o t d w2 Ed.out HO.out HH.out (HTP.out.below hB2 HTP.out.1)).mono ?_
    rintro e w3 ⟨rfl, hb3⟩
    have hB3 := hB2.trans (hb3.mono hB2.size)
    replace f0 := f0.below hb3
    replace f2 := f2.below hb3
    clear hb3 hB2
    go_wp2_with fail
    refine (rootA_i r d x y w3 Ex.out Ey.out HR.out HD.out (HTK.out.below hB3 HTK.out.1)).mono ?_
    rintro e w4 ⟨rfl, hb4⟩
    have hB4 := hB3.trans (hb4.mono hB3.size)
    replace f0 := f0.below hb4
    replace f2 := f2.below hb4
    clear hb4 hB3
    have c0 := f2.cell (j := 0) rfl
    have c4 := f2.cell (j := 4) rfl
    have z0 := f2.froz (j := 0)
    have z4 := f2.froz (j := 4)
    rw [hg] at c0 c4 z0 z4
    have F2 : Hid (Blk w1.heap.size (sesA x o p t y 0 0 (ByteArray.mk #[]) 0) 24 ((w4.setCell ⟨w1.heap.size, 0, none⟩ (.string x)).setCell ⟨w1.heap.size, 4, none⟩ (.string y))) := by rw [← hg]; exact (f2.set 0 (.string x)).set 4 (.string y)
    have F0 : Hid (Blk w.heap.size sesZ 24 ((w4.setCell ⟨w1.heap.size, 0, none⟩ (.string x)).setCell ⟨w1.heap.size, 4, none⟩ (.string y))) := by rw [← hg]; exact (f0.other 0 _ HNE.out).other 4 _ HNE.out
    have HB : Hid (Below w.heap.size w ((w4.setCell ⟨w1.heap.size, 0, none⟩ (.string x)).setCell ⟨w1.heap.size, 4, none⟩ (.string y))) := by rw [← hg]; exact (hB4.setCell (p := ⟨g, 0, none⟩) HGE.out _).setCell (p := ⟨g, 4, none⟩) HGE.out _
    clear f0 f2 hB4 hg
    go_wp2_with (first | with_reducible refine wpList_load_row (o := ⟨some 31, _, _, _, _, _⟩) rfl 24 _ rfl w1.heap.size rfl 24 (sesA x o p t y 0 0 (ByteArray.mk #[]) 0) (0, 0) _ F2.out.h Tryd.underlying24 rfl (sesSz _ _ _ _ _ _ _ _ _) ?_ | ((with_reducible refine wpList_store_row' (o := ⟨none, .store 24 _ _, _, _, _, _⟩) rfl 24 _ _ rfl w.heap.size (sesA x o p t y 0 0 (ByteArray.mk #[]) 0) rfl rfl 24 sesZ F0.out.h (sesSz _ _ _ _ _ _ _ _ _) rfl (sesOne _ _ _ _ _ _ _ _ _) ?_); intro w5 hw5 hs5 hg5) | fail)
    have hB5 : Below w.heap.size w w5 := HB.out.grown hg5 (by have := HB.out.size; omega) (by intro k hk; have := Option.some.inj hk; omega)
    refine bodyPost_ret (v := .tuple #[.agg (sesA x o p t y 0 0 (ByteArray.mk #[]) 0), .bool true]) ?_ rfl ⟨by rw [HV.out], hB5⟩
    exact results_row_tmp Tryd.results15 _ _ w.heap.size 24 _ (0, 0) _ rfl hw5 Tryd.underlying24 rfl (sesSz _ _ _ _ _ _ _ _ _)
  · have HV : Hid (stA r t o = sesZ) := if_neg h
    rw [decide_eq_false h] at HA ⊢
    clear h
    generalize hst : stA r t o = A at *
    have HST := Lib.hid hst
    clear hst
    go_enter Tryd.func15, Tryd.ntmps15
    go_wp2_with fail
    refine HK.out.mono ?_
    rintro e w' ⟨rfl, rfl⟩
    rw [HA.out]
    go_wp2
    refine bodyPost_ret (v := .tuple #[.agg sesZ, .bool false]) ?_ rfl ⟨by rw [HV.out], hb0⟩
    exact results_row_tmp Tryd.results15 _ _ w.heap.size 24 _ (0, 0) _ rfl f0.h Tryd.underlying24 rfl (sesSz _ _ _ _ _ _ _ _ _)

set_option maxRecDepth 100000 in
set_option maxHeartbeats 4000000 in
theorem startA_s (r t o : ByteArray) (w : World) (hr : r.size ≤ 1048576) (hh : t.size ≤ 1048576) (ho : o.size ≤ 1048576) :
    Calls Tryd.prog 14 #[.string r, .string t, .string o] w fun e w' => e = .returned (.tuple #[.agg (stA r t o), .bool (decide (r.size = 32 ∧ t.size = 32 ∧ o.size = 32))]) ∧ Below w.heap.size w w' := by
  have hb0 : Below w.heap.size w (w.alloc (.cells sesZ 24)) := (Below.refl _ _).alloc (Nat.le_refl _) _
  have f0 : Blk w.heap.size sesZ 24 (w.alloc (.cells sesZ 24)) := heap_alloc_new w _
  have HR := Lib.hid hr
  have HH := Lib.hid hh
  have HO := Lib.hid ho
  by_cases h1 : r.size = 32
  case neg =>
    have H1 : Hid (((r.size : Int) == 32) = false) := by show _ = _; simp; omega
    have HV : Hid (stA r t o = sesZ) := if_neg (fun c => h1 c.1)
    rw [decide_eq_false (fun c => h1 c.1)]
    clear h1 hr hh ho
    generalize hst : stA r t o = A at *
    have HST := Lib.hid hst
    clear hst
    go_enter Tryd.func14, Tryd.ntmps14
    go_wp2_with fail
    refine (l1Key_bool r _ false H1.out).mono ?_
    rintro e w' ⟨rfl, rfl⟩
    go_wp2
    refine bodyPost_ret (v := .tuple #[.agg sesZ, .bool false]) ?_ rfl ⟨by rw [HV.out], hb0⟩
    exact results_row_tmp Tryd.results14 _ _ w.heap.size 24 _ (0, 0) _ rfl f0.h Tryd.underlying24 rfl (sesSz _ _ _ _ _ _ _ _ _)
  have H1 : Hid (((r.size : Int) == 32) = true) := by show _ = _; simp; omega
  by_cases h2 : t.size = 32
  case neg =>
    have H2 : Hid (((t.size : Int) == 32) = false) := by show _ = _; simp; omega
    have HV : Hid (stA r t o = sesZ) := if_neg (fun c => h2 c.2.1)
    rw [decide_eq_false (fun c => h2 c.2.1)]
    clear h1 h2 hr hh ho
    generalize hst : stA r t o = A at *
    have HST := Lib.hid hst
    clear hst
    go_enter Tryd.func14, Tryd.ntmps14
    go_wp2_with fail
    refine (l1Key_bool r _ true H1.out).mono ?_
    rintro e w' ⟨rfl, rfl⟩
    go_wp2_with fail
    refine (l1Key_bool t _ false H2.out).mono ?_
    rintro e w' ⟨rfl, rfl⟩
    go_wp2
    refine bodyPost_ret (v := .tuple #[.agg sesZ, .bool false]) ?_ rfl ⟨by rw [HV.out], hb0⟩
    exact results_row_tmp Tryd.results14 _ _ w.heap.size 24 _ (0, 0) _ rfl f0.h Tryd.underlying24 rfl (sesSz _ _ _ _ _ _ _ _ _)
  have H2 : Hid (((t.size : Int) == 32) = true) := by show _ = _; simp; omega
  by_cases h3 : o.size = 32
  case neg =>
    have H3 : Hid (((o.size : Int) == 32) = false) := by show _ = _; simp; omega
    have HV : Hid (stA r t o = sesZ) := if_neg (fun c => h3 c.2.2)
    rw [decide_eq_false (fun c => h3 c.2.2)]
    clear h1 h2 h3 hr hh ho
    generalize hst : stA r t o = A at *
    have HST := Lib.hid hst
    clear hst
    go_enter Tryd.func14, Tryd.ntmps14
    go_wp2_with fail
    refine (l1Key_bool r _ true H1.out).mono ?_
    rintro e w' ⟨rfl, rfl⟩
    go_wp2_with fail
    refine (l1Key_bool t _ true H2.out).mono ?_
    rintro e w' ⟨rfl, rfl⟩
    go_wp2_with fail
    refine (l1Key_bool o _ false H3.out).mono ?_
    rintro e w' ⟨rfl, rfl⟩
    go_wp2
    refine bodyPost_ret (v := .tuple #[.agg sesZ, .bool false]) ?_ rfl ⟨by rw [HV.out], hb0⟩
    exact results_row_tmp Tryd.results14 _ _ w.heap.size 24 _ (0, 0) _ rfl f0.h Tryd.underlying24 rfl (sesSz _ _ _ _ _ _ _ _ _)
  · have H3 : Hid (((o.size : Int) == 32) = true) := by show _ = _; simp; omega
    obtain ⟨p, ep⟩ : ∃ p, p = dhV o nineS := ⟨_, rfl⟩
    obtain ⟨d, ed⟩ : ∃ d, d = dhV o t := ⟨_, rfl⟩
    have HD : Hid (d.size = 32) := by show _ = _; rw [ed]; exact dhV_sz o t ⟨h3, h2⟩
    have HR2 := Lib.hid h1
    obtain ⟨x, ex⟩ : ∃ x, x = rt0 r d := ⟨_, rfl⟩
    obtain ⟨y, ey⟩ : ∃ y, y = rt1 r d := ⟨_, rfl⟩
    have HV : Hid (stA r t o = sesA x o p t y 0 0 (ByteArray.mk #[]) 0) := by show _ = _; rw [ey, ex, ep, ed]; exact if_pos ⟨h1, h2, h3⟩
    have Ep := Lib.hid ep
    have Ed := Lib.hid ed
    have Ex := Lib.hid ex
    have Ey := Lib.hid ey
    rw [decide_eq_true ⟨h1, h2, h3⟩]
    clear h1 h2 h3 ep ed ex ey hr hh ho
    generalize hst : stA r t o = A at *
    have HST := Lib.hid hst
    clear hst
    go_enter Tryd.func14, Tryd.ntmps14
    go_wp2_with fail
    refine (l1Key_bool r _ true H1.out).mono ?_
    rintro e w' ⟨rfl, rfl⟩
    go_wp2_with fail
    refine (l1Key_bool t _ true H2.out).mono ?_
    rintro e w' ⟨rfl, rfl⟩
    go_wp2_with fail
    refine (l1Key_bool o _ true H3.out).mono ?_
    rintro e w' ⟨rfl, rfl⟩
    go_wp2_with fail
    refine (pubA_s o p (w.alloc (.cells sesZ 24)) Ep.out HO.out).mono ?_
    rintro e w1 ⟨rfl, hb1⟩
    have hB1 := hb0.trans (hb1.mono hb0.size)
    replace f0 := f0.below hb1
    clear hb1 hb0
    go_wp2_with (first | ((with_reducible refine wpList_store_row' (o := ⟨none, .store 24 _ _, _, _, _, _⟩) rfl 24 _ _ rfl w1.heap.size (sesA (ByteArray.mk #[]) o p t (ByteArray.mk #[]) 0 0 (ByteArray.mk #[]) 0) rfl rfl 24 sesZ (heap_alloc_new w1 _) (sesSz _ _ _ _ _ _ _ _ _) rfl (sesOne _ _ _ _ _ _ _ _ _) ?_); intro w2 hw2 hs2 hg2) | fail)
    have f2 : Blk w1.heap.size (sesA (ByteArray.mk #[]) o p t (ByteArray.mk #[]) 0 0 (ByteArray.mk #[]) 0) 24 w2 := hw2
    have hB2 : Below w.heap.size w w2 := (hB1.alloc hB1.size _).grown hg2 (by simp; have := hB1.size; omega) (by intro k hk; have := Option.some.inj hk; have := hB1.size; omega)
    have hl0 := f0.lt
    replace f0 : Blk w.heap.size sesZ 24 w2 := (hg2.block _ (by simp; omega) (by simp; omega)).trans ((Below.heap_alloc _ _ _ hl0).trans f0)
    have HNE : Hid (w.heap.size ≠ w1.heap.size) := by show _ ≠ _; omega
    have HGE : Hid (w.heap.size ≤ w1.heap.size) := hB1.size
    clear hw2 hs2 hg2 hB1 hl0
    obtain ⟨g, hg⟩ : ∃ g, g = w1.heap.size := ⟨_, rfl⟩
    rw [← hg] at f2 HNE HGE
    refine (dhA_s o t d w2 Ed.out HO.out HH.out).mono ?_
    rintro e w3 ⟨rfl, hb3⟩
    have hB3 := hB2.trans (hb3.mono hB2.size)
    replace f0 := f0.below hb3
    replace f2 := f2.below hb3
    clear hb3 hB2
    go_wp2_with fail
    refine (rootA_s r d x y w3 Ex.out Ey.out HR2.out HD.out).mono ?_
    rintro e w4 ⟨rfl, hb4⟩
    have hB4 := hB3.trans (hb4.mono hB3.size)
    replace f0 := f0.below hb4
    replace f2 := f2.below hb4
    clear hb4 hB3
    have c0 := f2.cell (j := 0) rfl
    have c4 := f2.cell (j := 4) rfl
    have z0 := f2.froz (j := 0)
    have z4 := f2.froz (j := 4)
    rw [hg] at c0 c4 z0 z4
    have F2 : Hid (Blk w1.heap.size (sesA x o p t y 0 0 (ByteArray.mk #[]) 0) 24 ((w4.setCell ⟨w1.heap.size, 0, none⟩ (.string x)).setCell ⟨w1.heap.size, 4, none⟩ (.string y))) := by rw [← hg]; exact (f2.set 0 (.string x)).set 4 (.string y)
    have F0 : Hid (Blk w.heap.size sesZ 24 ((w4.setCell ⟨w1.heap.size, 0, none⟩ (.string x)).setCell ⟨w1.heap.size, 4, none⟩ (.string y))) := by rw [← hg]; exact (f0.other 0 _ HNE.out).other 4 _ HNE.out
    have HB : Hid (Below w.heap.size w ((w4.setCell ⟨w1.heap.size, 0, none⟩ (.string x)).setCell ⟨w1.heap.size, 4, none⟩ (.string y))) := by rw [← hg]; exact (hB4.setCell (p := ⟨g, 0, none⟩) HGE.out _).setCell (p := ⟨g, 4, none⟩) HGE.out _
    clear f0 f2 hB4 hg
    go_wp2_with (first | with_reducible refine wpList_load_row (o := ⟨some 38, _, _, _, _, _⟩) rfl 24 _ rfl w1.heap.size rfl 24 (sesA x o p t y 0 0 (ByteArray.mk #[]) 0) (0, 0) _ F2.out.h Tryd.underlying24 rfl (sesSz _ _ _ _ _ _ _ _ _) ?_ | ((with_reducible refine wpList_store_row' (o := ⟨none, .store 24 _ _, _, _, _, _⟩) rfl 24 _ _ rfl w.heap.size (sesA x o p t y 0 0 (ByteArray.mk #[]) 0) rfl rfl 24 sesZ F0.out.h (sesSz _ _ _ _ _ _ _ _ _) rfl (sesOne _ _ _ _ _ _ _ _ _) ?_); intro w5 hw5 hs5 hg5) | fail)
    have hB5 : Below w.heap.size w w5 := HB.out.grown hg5 (by have := HB.out.size; omega) (by intro k hk; have := Option.some.inj hk; omega)
    refine bodyPost_ret (v := .tuple #[.agg (sesA x o p t y 0 0 (ByteArray.mk #[]) 0), .bool true]) ?_ rfl ⟨by rw [HV.out], hB5⟩
    exact results_row_tmp Tryd.results14 _ _ w.heap.size 24 _ (0, 0) _ rfl hw5 Tryd.underlying24 rfl (sesSz _ _ _ _ _ _ _ _ _)

end Go.Proofs.YtfbcmckepdjdkaaDoor
